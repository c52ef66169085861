/-
  The laws' own small functions on pictures (written by gen_pic.py).
-/
import Derived.Test.YtgknninkfdgebaaDeepI2
import Derived.Test.YtgknninkfdgebaaRowOps
namespace Go.Proofs.Ytgknninkfdgebaa
open Go.RowKit

/-- A picture: how many bits, how wide, how high, and its planes. -/
structure Pic where
  p : Int
  wd : Int
  ht : Int
  X : List (List Int)
def RdPi (w : World) (u : Value) (a : Pic) : Prop := ∃ v, u = .agg #[.int .i64 a.p, .int .i64 a.wd, .int .i64 a.ht, v] ∧ Rd2 w v a.X
def OwPi (w : World) (u : Value) (a : Pic) (F : List Nat) : Prop := ∃ v, u = .agg #[.int .i64 a.p, .int .i64 a.wd, .int .i64 a.ht, v] ∧ Ow2 w v a.X F
def RdPz (w : World) (u : Value) (a : Pic) : Prop := ∃ v, u = .agg #[.int .i64 a.p, .int .i64 a.wd, .int .i64 a.ht, v] ∧ RdZ (RdR (RdZ (RdI .i64))) w v a.X
def szPi (a : Pic) : Nat := szR lenI a.X
def cntPi (a : Pic) : Nat := cntR lenI a.X
def mkPi (a : Pic) (k : Int) : Pic := { a with X := mkR mkI lenI a.X k }
theorem RdPi.st : StR RdPi := fun _ _ _ _ ⟨v, e, h⟩ g => ⟨v, e, st2 _ _ _ _ h g⟩
theorem OwPi.rd {w : World} {u : Value} {a : Pic} {F : List Nat} (h : OwPi w u a F) : RdPi w u a := by obtain ⟨v, e, h⟩ := h; exact ⟨v, e, Ow2.rd h⟩
theorem OwPi.lt {w : World} {u : Value} {a : Pic} {F : List Nat} (h : OwPi w u a F) : ∀ g ∈ F, g < w.heap.size := by obtain ⟨v, _, h⟩ := h; exact ok2.lt _ _ _ _ h
theorem OwPi.wr {w w' : World} {u : Value} {a : Pic} {F G : List Nat} (h : OwPi w u a F) (g : Wr G w w') (hd : ∀ x ∈ F, x ∉ G) : OwPi w' u a F := by obtain ⟨v, e, h⟩ := h; exact ⟨v, e, ok2.wr h g hd⟩
theorem OwPi.keep {w w' : World} {u : Value} {a : Pic} {F : List Nat} (h : OwPi w u a F) (g : w.grownBy w' none) : OwPi w' u a F := h.wr (Wr.ofNone (F := []) g) (fun x _ => by simp)
theorem OwPi.form {w : World} {u : Value} {a : Pic} {F : List Nat} (h : OwPi w u a F) : ∃ so sc, u = .agg #[.int .i64 a.p, .int .i64 a.wd, .int .i64 a.ht, .slice so a.X.length sc] := by
  obtain ⟨v, e, h⟩ := h
  obtain ⟨so, sc, rfl⟩ := h.form
  exact ⟨so, sc, e⟩
theorem stz2 : StR (RdZ (RdR (RdZ (RdI .i64)))) := by
  have s1 : StR (RdZ (RdI .i64)) := fun _ _ _ _ h g => ⟨RdI.st .i64 _ _ _ _ h.1 g, h.2⟩
  exact fun _ _ _ _ h g => ⟨RdR.st s1 _ _ _ _ h.1 g, h.2⟩
theorem RdPz.st : StR RdPz := fun _ _ _ _ ⟨v, e, h⟩ g => ⟨v, e, stz2 _ _ _ _ h g⟩
theorem RdR.imp2 {α : Type} {P Q : World → Value → α → Prop} (h : ∀ w u a, P w u a → Q w u a) {w : World} {v : Value} {L : List α} (hp : RdR P w v L) : RdR Q w v L := by
  obtain ⟨ao, cap, e, hel⟩ := hp
  exact ⟨ao, cap, e, fun i hi => by obtain ⟨b, off, u, e1, c, p⟩ := hel i hi; exact ⟨b, off, u, e1, c, h _ _ _ p⟩⟩
theorem RdPz.rd {w : World} {u : Value} {a : Pic} (h : RdPz w u a) : RdPi w u a := by
  obtain ⟨v, e, h⟩ := h
  exact ⟨v, e, RdR.imp2 (fun _ _ _ h => h.1) h.1⟩
theorem rowAt {w : World} {b : Nat} {X : Array Value} {t : TypeId} (h : w.heap[b]? = some (.cells X t (0, 0))) (i : Nat) {v : Value} (hv : X[i]? = some v) : w.cell? ⟨b, i, none⟩ = some v := by
  rw [cell_of_row w b i X t (0, 0) h]; exact hv

set_option maxHeartbeats 1600000 in
theorem toPictureC : ToC 15 RdPi OwPi szPi := by
  rintro w u ⟨p, wd, ht, X⟩ ⟨v, rfl, hv⟩ hs
  dsimp only at hv ⊢
  obtain ⟨ao, cap, rfl, _⟩ := id hv
  obtain ⟨n, HN⟩ : ∃ n, Hid (X.length = n) := ⟨_, rfl⟩
  have HV := hide hv
  rw [unhide HN] at HV ⊢
  clear hv
  obtain ⟨W3, hW3⟩ : ∃ W3, (((w.alloc (.cells #[.int .i64 p, .int .i64 wd, .int .i64 ht, .slice ao n cap] 30)).alloc (.cells #[.int .i64 0, .int .i64 0, .int .i64 0, .slice none 0 0] 33)).alloc (.cells #[.int .i64 p, .int .i64 wd, .int .i64 ht, .slice none 0 0] 33)) = W3 := ⟨_, rfl⟩
  have G0 : w.grownBy W3 none := by rw [← hW3]; exact grown_alloc (grown_alloc (grown_alloc (World.grownBy.refl _ _) _) _) _
  have b1 : W3.heap[w.heap.size + 1]? = some (.cells #[.int .i64 0, .int .i64 0, .int .i64 0, .slice none 0 0] 33 (0, 0)) := by
    rw [← hW3, Below.heap_alloc _ _ _ (by simp)]
    have := heap_alloc_new (w.alloc (.cells #[.int .i64 p, .int .i64 wd, .int .i64 ht, .slice ao n cap] 30)) (.cells #[.int .i64 0, .int .i64 0, .int .i64 0, .slice none 0 0] 33)
    simpa using this
  have b2 : W3.heap[w.heap.size + 1 + 1]? = some (.cells #[.int .i64 p, .int .i64 wd, .int .i64 ht, .slice none 0 0] 33 (0, 0)) := by
    rw [← hW3]
    have := heap_alloc_new ((w.alloc (.cells #[.int .i64 p, .int .i64 wd, .int .i64 ht, .slice ao n cap] 30)).alloc (.cells #[.int .i64 0, .int .i64 0, .int .i64 0, .slice none 0 0] 33)) (.cells #[.int .i64 p, .int .i64 wd, .int .i64 ht, .slice none 0 0] 33)
    simpa using this
  have hsz : W3.heap.size = w.heap.size + 3 := by rw [← hW3]; simp
  have HT := hide (toIntSSC W3 _ X (st2 _ _ _ _ (unhide HV) G0) hs)
  have HW := hide hW3
  have B1 := hide b1
  have B2 := hide b2
  have HSZ := hide hsz
  have HG0 := hide G0
  clear hW3 b1 b2 hsz G0 HV hs
  go_enter Try.func15, Try.ntmps15
  go_wp2_with fail
  rw [unhide HW]
  refine (unhide HT).mono ?_
  rintro e w1 ⟨u1, F, rfl, p1, n1, l1, g1⟩
  obtain ⟨uo, uc, rfl⟩ := p1.form
  rw [unhide HN] at p1 ⊢
  have hz := unhide HSZ
  have e1 := (g1.block (w.heap.size + 1) (by omega) (by simp)).trans (unhide B1)
  have e2 := (g1.block (w.heap.size + 1 + 1) (by omega) (by simp)).trans (unhide B2)
  have c0 : w1.cell? ⟨w.heap.size + 1 + 1, 3, none⟩ = some (.slice none 0 0) := rowAt e2 3 rfl
  have f0 : w1.frozen? ⟨w.heap.size + 1 + 1, 3, none⟩ = false := frozen_of_row w1 _ 3 _ _ e2
  have hx1 : w.heap.size + 1 + 1 < w1.heap.size := (Array.getElem?_eq_some_iff.1 e2).1
  have e3 := heap_setCell_same w1 (w.heap.size + 1 + 1) 3 _ _ (.slice uo n uc) e2
  rw [show (#[.int .i64 p, .int .i64 wd, .int .i64 ht, .slice none 0 0] : Array Value).setIfInBounds 3 (.slice uo n uc) = #[.int .i64 p, .int .i64 wd, .int .i64 ht, .slice uo n uc] from rfl] at e3
  have GS1 := grown_set w1 (w.heap.size + 1 + 1) 3 (.slice uo n uc)
  have e4 := (GS1.block (w.heap.size + 1) (Array.getElem?_eq_some_iff.1 e1).1 (by simp)).trans e1
  have hl : ∀ x ∈ F, w.heap.size + 3 ≤ x := fun x hx => by have := l1 x hx; omega
  have HP2 := hide (ok2.wr p1 (Wr.ofRow (F := [w.heap.size + 1 + 1]) GS1 (fun g e => by have := Option.some.inj e; simp [this])) (fun x hx e => by simp at e; have := hl x hx; omega))
  have HG2 := hide (grown_new (grown_trans (unhide HG0) g1) GS1 (fun k e => by have := Option.some.inj e; omega))
  have E3 := hide e3
  have E4 := hide e4
  have HND := hide n1
  have HL := hide hl
  clear HW hz HSZ B1 B2 HG0 p1 n1 l1 g1 GS1 HT e1 e2 e3 e4 hl
  go_wp2_with (first | (refine load_row rfl 33 _ rfl (w.heap.size + 1 + 1) rfl #[.int .i64 p, .int .i64 wd, .int .i64 ht, .slice uo n uc] 33 (unhide E3) _ Try.underlying33 rfl (by kernel_rfl) ?_) | (refine store_row rfl 33 _ _ rfl (w.heap.size + 1) rfl #[.int .i64 p, .int .i64 wd, .int .i64 ht, .slice uo n uc] rfl #[.int .i64 0, .int .i64 0, .int .i64 0, .slice none 0 0] 33 (unhide E4) rfl (by kernel_rfl) (by simp [Value.oneCell']) ?_; intro w9 hB9 g9))
  refine bodyPost_ret (v := .agg #[.int .i64 p, .int .i64 wd, .int .i64 ht, .slice uo n uc]) ?_ rfl ⟨_, F, rfl, ⟨_, rfl, ?_⟩, unhide HND, fun g hg => by have := unhide HL g hg; omega, ?_⟩
  · rw [results_c1 rfl]
    exact run_loadVar_row w9 _ 33 33 _ (0, 0) _ hB9 Try.underlying33 rfl (by kernel_rfl)
  · exact ok2.wr (unhide HP2) (Wr.ofRow (F := [w.heap.size + 1]) g9 (fun g e => by have := Option.some.inj e; simp [this])) (fun x hx e => by simp at e; have := unhide HL x hx; omega)
  · exact grown_new (unhide HG2) g9 (fun g e => by simp at e; omega)

set_option maxHeartbeats 800000 in
theorem eqPictureC : EqC 17 RdPi szPi := by
  rintro w u u' ⟨p, wd, ht, X⟩ ⟨v, rfl, hv⟩ ⟨v', rfl, hv'⟩ hs
  dsimp only at hv hv' ⊢
  obtain ⟨ao, cap, rfl, _⟩ := id hv
  obtain ⟨bo, cap', rfl, _⟩ := id hv'
  obtain ⟨n, HN⟩ : ∃ n, Hid (X.length = n) := ⟨_, rfl⟩
  rw [unhide HN] at hv hv' ⊢
  have G : w.grownBy ((w.alloc (.cells #[.int .i64 p, .int .i64 wd, .int .i64 ht, .slice ao n cap] 33)).alloc (.cells #[.int .i64 p, .int .i64 wd, .int .i64 ht, .slice bo n cap'] 33)) none := grown_alloc (grown_alloc (World.grownBy.refl _ _) _) _
  have HT := hide (eqIntSSC _ _ _ X (st2 _ _ _ _ hv G) (st2 _ _ _ _ hv' G) hs)
  have HG := hide G
  have x1 : (p != p) = false := by simp
  have x2 : (wd != wd) = false := by simp
  have x3 : (ht != ht) = false := by simp
  clear hv hv' G hs
  go_enter Try.func17, Try.ntmps17
  go_wp2_with fail
  refine (unhide HT).mono ?_
  rintro e w1 ⟨rfl, g1⟩
  have HF := hide (grown_trans (unhide HG) g1)
  clear g1 HT
  go_wp2
  go_ret
  exact ⟨rfl, unhide HF⟩

set_option maxHeartbeats 800000 in
theorem markPictureC : MarkC 24 OwPi mkPi cntPi szPi := by
  rintro w u ⟨p, wd, ht, X⟩ F k ⟨v, rfl, hv⟩ hn hs h0 h1
  dsimp only at hv ⊢
  obtain ⟨ao, cap, rfl⟩ := hv.form
  obtain ⟨n, HN⟩ : ∃ n, Hid (X.length = n) := ⟨_, rfl⟩
  rw [unhide HN] at hv ⊢
  have G : w.grownBy (w.alloc (.cells #[.int .i64 p, .int .i64 wd, .int .i64 ht, .slice ao n cap] 33)) none := grown_alloc (World.grownBy.refl _ _) _
  have HT := hide (markIntSSC _ _ X F k (ok2.keep hv G) hn hs h0 h1)
  have e : cntR lenI X = cntPi ⟨p, wd, ht, X⟩ := rfl
  rw [e] at HT
  have HY : Hid (mkPi ⟨p, wd, ht, X⟩ k = ⟨p, wd, ht, mkR mkI lenI X k⟩) := rfl
  generalize cntPi ⟨p, wd, ht, X⟩ = c at *
  generalize mkR mkI lenI X k = Y at *
  have HG := hide G
  clear hv G hs hn
  go_enter Try.func24, Try.ntmps24
  go_wp2_with fail
  refine (unhide HT).mono ?_
  rintro e w1 ⟨rfl, p1, g1⟩
  have HP := hide p1
  have HF : Hid (Wr F w w1) := (Wr.ofNone (unhide HG)).trans g1
  clear p1 g1 HT
  go_wp2
  go_ret
  exact ⟨rfl, ⟨_, by rw [unhide HY], by rw [unhide HY]; exact unhide HP⟩, unhide HF⟩

set_option maxHeartbeats 800000 in
theorem szPictureC (w : World) (u : Value) (a : Pic) (left : Nat) (hq : RdPz w u a) (hl : left ≤ 1048576) (r : Int) (HR : Hid ((if szPi a ≤ left then (left : Int) - szPi a else -1) = r)) :
    Calls Try.prog 13 #[u, .int .i64 left] w fun e w' => e = .returned (.int .i64 r) ∧ w.grownBy w' none := by
  obtain ⟨p, wd, ht, X⟩ := a
  obtain ⟨v, rfl, hv⟩ := hq
  dsimp only at hv ⊢
  obtain ⟨ao, cap, rfl, _⟩ := id hv.1
  obtain ⟨n, HN⟩ : ∃ n, Hid (X.length = n) := ⟨_, rfl⟩
  rw [unhide HN] at hv ⊢
  have G : w.grownBy (w.alloc (.cells #[.int .i64 p, .int .i64 wd, .int .i64 ht, .slice ao n cap] 30)) none := grown_alloc (World.grownBy.refl _ _) _
  have HT := hide (szIntSSC _ _ X left (stz2 _ _ _ _ hv G) hl)
  have e : szR lenI X = szPi ⟨p, wd, ht, X⟩ := rfl
  rw [e, unhide HR] at HT
  have HG := hide G
  clear hv G e
  by_cases hr : r < 0
  · have hm : r = -1 := by
      have := unhide HR
      split at this <;> omega
    subst hm
    go_enter Try.func13, Try.ntmps13
    go_wp2_with fail
    refine (unhide HT).mono ?_
    rintro e w1 ⟨rfl, rfl⟩
    go_wp2
    go_ret
    exact ⟨rfl, unhide HG⟩
  · have hd : decide (r < 0) = false := decide_eq_false hr
    go_enter Try.func13, Try.ntmps13
    go_wp2_with fail
    refine (unhide HT).mono ?_
    rintro e w1 ⟨rfl, rfl⟩
    go_wp2
    go_ret
    exact ⟨rfl, unhide HG⟩

end Go.Proofs.Ytgknninkfdgebaa
