/-
  A frame's box that is made at any place among the calls; what the law on FrameFor holds (written by gen_lawframefor.py).
-/
import Derived.Test.YtgknninkfdgebaaFloatTail
import Derived.Test.YtgknninkfdgebaaFrForImpl2
import Derived.Test.YtgknninkfdgebaaFrameMarks
namespace Go.Proofs.Ytgknninkfdgebaa
open Go.RowKit

set_option maxHeartbeats 800000 in
theorem float_boxF {ops : Array Oper} {Q : Exit → Act → World → Prop} {a : Act} {w : World} {K' : Act → World → Prop} (s : Nat) (pos : String) (h : K' (a.put (some s) (.pointer (some ⟨w.heap.size, 0, none⟩))) (w.alloc (.cells #[.int .i64 0, .int .i64 0, .int .i64 0, .int .i64 0, .slice none 0 0] 45))) :
    runF Try.prog ops Q { dst := some s, op := Op.alloc 45, type := 0, pos := pos, after := #[], guard := none } a w K' := by
  unfold runF
  go_simp
  exact h

def FbF (wc : World) (N : Nat → Prop) (d : Bool) (x : Value) (w : World) : Prop := wc.grownBy w none ∧ (d = true → ∃ b, x = .pointer (some ⟨b, 0, none⟩) ∧ w.heap[b]? = some (.cells #[.int .i64 0, .int .i64 0, .int .i64 0, .int .i64 0, .slice none 0 0] 45 (0, 0)) ∧ N b)
theorem FbF.start (w : World) (N : Nat → Prop) (x : Value) : FbF w N false x w := ⟨World.grownBy.refl _ _, fun e => by cases e⟩
theorem FbF.alloc {wc : World} {N : Nat → Prop} {x : Value} {w : World} (h : FbF wc N false x w) (hN : N w.heap.size) : FbF wc N true (.pointer (some ⟨w.heap.size, 0, none⟩)) (w.alloc (.cells #[.int .i64 0, .int .i64 0, .int .i64 0, .int .i64 0, .slice none 0 0] 45)) :=
  ⟨grown_alloc h.1 _, fun _ => ⟨_, rfl, heap_alloc_new w _, hN⟩⟩
theorem FbF.next {wc : World} {N N' : Nat → Prop} {d : Bool} {x : Value} {w w' : World} (h : FbF wc N d x w) (g : w.grownBy w' none) (hN : ∀ b, N b → b < w.heap.size → N' b) : FbF w' N' d x w' :=
  ⟨World.grownBy.refl _ _, fun e => by obtain ⟨b, e1, hb, hn⟩ := h.2 e; exact ⟨b, e1, grown_at7 g hb (by simp), hN b hn (Array.getElem?_eq_some_iff.1 hb).1⟩⟩

set_option maxRecDepth 20000 in
theorem float_TF {ops : Array Oper} {Q : Exit → Act → World → Prop} {a : Act} {S : World → Prop} {wc : World} {N : Nat → Prop} {s : Nat} {pos : String} (hS : ∀ w, wc.grownBy w none → S w) (hN : ∀ w, wc.grownBy w none → N w.heap.size) :
    ∀ x w, FbF wc N false x w → ∀ K' : Act → World → Prop, Shut (∀ v w', FbF wc N true v w' → S w' → K' (a.put (some s) v) w') → runF Try.prog ops Q { dst := some s, op := Op.alloc 45, type := 0, pos := pos, after := #[], guard := none } (a.put (some s) x) w K' := by
  intro x w hT K' hK
  refine float_boxF s pos ?_
  rw [put_put]
  exact hK _ _ (hT.alloc (hN w hT.1)) (hS _ (grown_alloc hT.1 _))

theorem RdPi.new {w w' : World} {u : Value} {a : Pic} (h : RdPi w u a) (g : w.grownBy w' none) : RdPi w' u a := RdPi.st _ _ _ _ h g

/-- What came in, in its boxes. -/
structure KIn (w : World) (s : Nat) (A O : Array Value) (W : World) : Prop where
  pb : W.heap[s]? = some (.cells A 30 (0, 0))
  ob : W.heap[s + 1]? = some (.cells O 38 (0, 0))
  grown : w.grownBy W none
  at0 : w.heap.size = s
theorem KIn.new {w W W' : World} {s : Nat} {A O : Array Value} (h : KIn w s A O W) (g : W.grownBy W' none) : KIn w s A O W' := ⟨grown_at7 g h.pb (by simp), grown_at7 g h.ob (by simp), grown_trans h.grown g, h.at0⟩
theorem KIn.lo {w W : World} {s : Nat} {A O : Array Value} (h : KIn w s A O W) : s + 2 ≤ W.heap.size := by have := (Array.getElem?_eq_some_iff.1 h.ob).1; omega
theorem KIn.wr {w W W' : World} {s : Nat} {A O : Array Value} {F : List Nat} (h : KIn w s A O W) (g : Wr F W W') (hF : ∀ x ∈ F, s + 2 ≤ x) : KIn w s A O W' := by
  have h1 := h.lo
  exact ⟨(g.block _ (by omega) (fun e => by have := hF _ e; omega)).trans h.pb, (g.block _ (by omega) (fun e => by have := hF _ e; omega)).trans h.ob, Wr.new h.grown g (fun x hx => by have := hF x hx; have := h.at0; omega), h.at0⟩

/-- A frame that is owned, in a box: all of it made between lo and hi. -/
structure Fo (W : World) (lo hi b : Nat) (P0 Q0 H0 R0 : Int) (so : Option Addr) (N0 sc : Nat) (C : Nat → Nat → Int) : Prop where
  box : W.heap[b]? = some (.cells #[.int .i64 P0, .int .i64 Q0, .int .i64 H0, .int .i64 R0, .slice so N0 sc] 45 (0, 0))
  own : W.ownsRow lo 62 4 (.slice so N0 sc) N0 (rowsK N0 4 (compCells C))
  hb : lo ≤ b ∧ b < hi
  hq : ∀ g, (Value.slice so N0 sc).ownBlock = some g → g < hi ∧ g ≠ b
  hhi : hi ≤ W.heap.size
section
variable {W W' : World} {lo hi b N0 sc : Nat} {P0 Q0 H0 R0 : Int} {so : Option Addr} {C : Nat → Nat → Int}
theorem Fo.new (h : Fo W lo hi b P0 Q0 H0 R0 so N0 sc C) (g : W.grownBy W' none) : Fo W' lo hi b P0 Q0 H0 R0 so N0 sc C := ⟨grown_at7 g h.box (by simp), own_grown h.own g, h.hb, h.hq, Nat.le_trans h.hhi g.size⟩
theorem Fo.wr {F : List Nat} (h : Fo W lo hi b P0 Q0 H0 R0 so N0 sc C) (g : Wr F W W') (hF : ∀ x ∈ F, ¬ (lo ≤ x ∧ x < hi)) : Fo W' lo hi b P0 Q0 H0 R0 so N0 sc C := by
  have h1 := h.hb
  have h2 := h.hhi
  exact ⟨(g.block _ (by omega) (fun e => hF _ e h1)).trans h.box, own_sameAt h.own (fun x hx => g.block x (h.own.lt x hx).2 (fun e => hF _ e ⟨(h.own.lt x hx).1, (h.hq x hx).1⟩)), h.hb, h.hq, Nat.le_trans h2 g.size⟩
theorem Fo.rd (h : Fo W lo hi b P0 Q0 H0 R0 so N0 sc C) : RdC W so N0 C := own_rdC h.own
theorem Fo.marked {k : Int} (h : Fo W lo hi b P0 Q0 H0 R0 so N0 sc C) (g : W.grownBy W' (Value.slice so N0 sc).ownBlock) (o : W'.ownsRow lo 62 4 (.slice so N0 sc) N0 (rowsK N0 4 (compCells (markedC k)))) : Fo W' lo hi b P0 Q0 H0 R0 so N0 sc (markedC k) := by
  have h1 := h.hb
  have h2 := h.hhi
  exact ⟨(g.block _ (by omega) (fun e => (h.hq b e.symm).2 rfl)).trans h.box, o, h.hb, h.hq, Nat.le_trans h2 g.size⟩
end

/-- A picture that is owned, in a box: all of it made between lo and hi. -/
structure Pb (W : World) (lo hi b : Nat) (A : Array Value) (a : Pic) (F : List Nat) : Prop where
  box : W.heap[b]? = some (.cells A 33 (0, 0))
  own : OwPi W (.agg A) a F
  hb : lo ≤ b ∧ b < hi
  hF : ∀ x ∈ F, lo ≤ x ∧ x < hi ∧ x ≠ b
  hhi : hi ≤ W.heap.size
theorem Pb.new {W W' : World} {lo hi b : Nat} {A : Array Value} {a : Pic} {F : List Nat} (h : Pb W lo hi b A a F) (g : W.grownBy W' none) : Pb W' lo hi b A a F := ⟨grown_at7 g h.box (by simp), h.own.keep g, h.hb, h.hF, Nat.le_trans h.hhi g.size⟩
theorem Pb.wr {W W' : World} {lo hi b : Nat} {A : Array Value} {a : Pic} {F G : List Nat} (h : Pb W lo hi b A a F) (g : Wr G W W') (hG : ∀ x ∈ G, ¬ (lo ≤ x ∧ x < hi)) : Pb W' lo hi b A a F :=
  ⟨(g.block _ (by have := h.hb; have := h.hhi; omega) (fun e => hG _ e h.hb)).trans h.box, h.own.wr g (fun x hx e => hG x e ⟨(h.hF x hx).1, (h.hF x hx).2.1⟩), h.hb, h.hF, Nat.le_trans h.hhi g.size⟩

end Go.Proofs.Ytgknninkfdgebaa
