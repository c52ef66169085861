/-
  CoefFns, DeepA, CoefEmpty, TreeG.
-/
import Derived.Maps.AppendAt
import Derived.Deep.AppendLies
import Derived.Test.YtibgldanmhckiaaMFc

namespace Go.Proofs.Ytibgldanmhckiaa
open Go.RowKit

def RdCo (w : World) (u : Value) (X : List (List (List Int))) : Prop := ∃ v, u = .agg #[v] ∧ Rd3 w v X
theorem RdCo.st : StR RdCo := fun _ _ _ _ ⟨v, e, h⟩ g => ⟨v, e, st3 _ _ _ _ h g⟩
def szCo (X : List (List (List Int))) : Nat := szR (szR lenI) X
def cntCo (X : List (List (List Int))) : Nat := cntR (cntR lenI) X
def mkCo (X : List (List (List Int))) (k : Int) : List (List (List Int)) := mkR (mkR mkI lenI) (cntR lenI) X k

def OwCo (w : World) (u : Value) (X : List (List (List Int))) (F : List Nat) : Prop := ∃ v, u = .agg #[v] ∧ Ow3 w v X F
theorem OwCo.rd {w : World} {u : Value} {X : List (List (List Int))} {F : List Nat} (h : OwCo w u X F) : RdCo w u X := by obtain ⟨v, e, h⟩ := h; exact ⟨v, e, Ow3.rd h⟩
theorem OwCo.same {w w' : World} {u : Value} {X : List (List (List Int))} {F : List Nat} (h : OwCo w u X F) (hs : ∀ g ∈ F, w'.heap[g]? = w.heap[g]?) : OwCo w' u X F := by obtain ⟨v, e, h⟩ := h; exact ⟨v, e, ok3.same _ _ _ _ _ h hs⟩
theorem OwCo.lt {w : World} {u : Value} {X : List (List (List Int))} {F : List Nat} (h : OwCo w u X F) : ∀ g ∈ F, g < w.heap.size := by obtain ⟨v, _, h⟩ := h; exact ok3.lt _ _ _ _ h
theorem OwCo.wr {w w' : World} {u : Value} {X : List (List (List Int))} {F G : List Nat} (h : OwCo w u X F) (g : Wr G w w') (hd : ∀ x ∈ F, x ∉ G) : OwCo w' u X F := h.same (fun x hx => g.block x (h.lt x hx) (hd x hx))
theorem OwCo.keep {w w' : World} {u : Value} {X : List (List (List Int))} {F : List Nat} (h : OwCo w u X F) (g : w.grownBy w' none) : OwCo w' u X F := h.wr (Wr.ofNone (F := []) g) (fun x _ => by simp)

set_option maxHeartbeats 1600000 in
theorem toCoefsC : ToC 28 RdCo OwCo szCo := by
  rintro w u X ⟨v, rfl, hv⟩ hs
  obtain ⟨ao, cap, rfl, _⟩ := id hv
  obtain ⟨n, HN⟩ : ∃ n, Hid (X.length = n) := ⟨_, rfl⟩
  have HV := hide hv
  rw [unhide HN] at HV ⊢
  clear hv
  obtain ⟨W3, hW3⟩ : ∃ W3, (((w.alloc (.cells #[.slice ao n cap] 53)).alloc (.cells #[.slice none 0 0] 29)).alloc (.cells #[.slice none 0 0] 29)) = W3 := ⟨_, rfl⟩
  have G0 : w.grownBy W3 none := by rw [← hW3]; exact grown_alloc (grown_alloc (grown_alloc (World.grownBy.refl _ _) _) _) _
  have b1 : W3.heap[w.heap.size + 1]? = some (.cells #[.slice none 0 0] 29 (0, 0)) := by
    rw [← hW3, Below.heap_alloc _ _ _ (by simp)]
    have := heap_alloc_new (w.alloc (.cells #[.slice ao n cap] 53)) (.cells #[.slice none 0 0] 29)
    simpa using this
  have b2 : W3.heap[w.heap.size + 1 + 1]? = some (.cells #[.slice none 0 0] 29 (0, 0)) := by
    rw [← hW3]
    have := heap_alloc_new ((w.alloc (.cells #[.slice ao n cap] 53)).alloc (.cells #[.slice none 0 0] 29)) (.cells #[.slice none 0 0] 29)
    simpa using this
  have hsz : W3.heap.size = w.heap.size + 3 := by rw [← hW3]; simp
  have HT := hide (toIntSSSC W3 _ X (st3 _ _ _ _ (unhide HV) G0) hs)
  have HW := hide hW3
  have B1 := hide b1
  have B2 := hide b2
  have HSZ := hide hsz
  have HG0 := hide G0
  clear hW3 b1 b2 hsz G0 HV
  go_enter Try.func28, Try.ntmps28
  go_wp2_with fail
  rw [unhide HW]
  refine (unhide HT).mono ?_
  rintro e w1 ⟨u1, F, rfl, p1, n1, l1, g1⟩
  obtain ⟨uo, uc, rfl⟩ := p1.form
  obtain ⟨m, HM⟩ : ∃ m, Hid (X.length = m) := ⟨_, rfl⟩
  rw [unhide HM] at p1 ⊢
  have hz := unhide HSZ
  have e1 := (g1.block (w.heap.size + 1) (by omega) (by simp)).trans (unhide B1)
  have e2 := (g1.block (w.heap.size + 1 + 1) (by omega) (by simp)).trans (unhide B2)
  have c0 : w1.cell? ⟨w.heap.size + 1 + 1, 0, none⟩ = some (.slice none 0 0) := by rw [cell_of_row w1 _ 0 _ _ (0, 0) e2]; rfl
  have f0 : w1.frozen? ⟨w.heap.size + 1 + 1, 0, none⟩ = false := frozen_of_row w1 _ 0 _ _ e2
  have d0 : w1.cell? ⟨w.heap.size + 1, 0, none⟩ = some (.slice none 0 0) := by rw [cell_of_row w1 _ 0 _ _ (0, 0) e1]; rfl
  have k0 : w1.frozen? ⟨w.heap.size + 1, 0, none⟩ = false := frozen_of_row w1 _ 0 _ _ e1
  have GS1 := grown_set w1 (w.heap.size + 1 + 1) 0 (.slice uo m uc)
  have GS2 := grown_set (w1.setCell ⟨w.heap.size + 1 + 1, 0, none⟩ (.slice uo m uc)) (w.heap.size + 1) 0 (.slice uo m uc)
  have HF : Hid (OwCo ((w1.setCell ⟨w.heap.size + 1 + 1, 0, none⟩ (.slice uo m uc)).setCell ⟨w.heap.size + 1, 0, none⟩ (.slice uo m uc)) (.agg #[.slice uo m uc]) X F ∧ F.Nodup ∧ (∀ g ∈ F, w.heap.size ≤ g) ∧ w.grownBy ((w1.setCell ⟨w.heap.size + 1 + 1, 0, none⟩ (.slice uo m uc)).setCell ⟨w.heap.size + 1, 0, none⟩ (.slice uo m uc)) none) := by
    have hl : ∀ x ∈ F, w.heap.size + 3 ≤ x := fun x hx => by have := l1 x hx; omega
    refine ⟨⟨_, rfl, ?_⟩, n1, fun g hg => by have := hl g hg; omega, ?_⟩
    · have p2 := ok3.wr p1 (Wr.ofRow (F := [w.heap.size + 1 + 1]) GS1 (fun g e => by have := Option.some.inj e; simp [this])) (fun x hx e => by simp at e; have := hl x hx; omega)
      exact ok3.wr p2 (Wr.ofRow (F := [w.heap.size + 1]) GS2 (fun g e => by have := Option.some.inj e; simp [this])) (fun x hx e => by simp at e; have := hl x hx; omega)
    · exact grown_new (grown_new (grown_trans (unhide HG0) g1) GS1 (fun k e => by have := Option.some.inj e; omega)) GS2 (fun k e => by have := Option.some.inj e; omega)
  have hcc : ((w1.setCell ⟨w.heap.size + 1 + 1, 0, none⟩ (.slice uo m uc)).setCell ⟨w.heap.size + 1, 0, none⟩ (.slice uo m uc)).cell? ⟨w.heap.size + 1, 0, none⟩ = some (.slice uo m uc) := by
    have h1 := (GS1.block (w.heap.size + 1) (Array.getElem?_eq_some_iff.1 e1).1 (by simp)).trans e1
    rw [cell_of_row _ _ 0 _ _ (0, 0) (heap_setCell_same _ (w.heap.size + 1) 0 _ _ _ h1)]
    rfl
  have HCC := hide hcc
  clear HW hz HSZ B1 B2 HG0 p1 n1 l1 g1 GS1 GS2 HT e1 e2 hcc
  go_wp2
  refine bodyPost_ret (v := .agg #[.slice uo m uc]) (by have hcc := unhide HCC; simp [results, Try.results28, go_sem, hcc]) rfl ?_
  obtain ⟨h1, h2, h3, h4⟩ := unhide HF
  exact ⟨_, F, rfl, h1, h2, h3, h4⟩

set_option maxHeartbeats 800000 in
theorem eqCoefsC : EqC 22 RdCo szCo := by
  rintro w u u' X ⟨v, rfl, hv⟩ ⟨v', rfl, hv'⟩ hs
  obtain ⟨ao, cap, rfl, _⟩ := id hv
  obtain ⟨bo, cap', rfl, _⟩ := id hv'
  obtain ⟨n, HN⟩ : ∃ n, Hid (X.length = n) := ⟨_, rfl⟩
  rw [unhide HN] at hv hv' ⊢
  have G : w.grownBy ((w.alloc (.cells #[.slice ao n cap] 29)).alloc (.cells #[.slice bo n cap'] 29)) none := grown_alloc (grown_alloc (World.grownBy.refl _ _) _) _
  have HT := hide (eqIntSSSC _ _ _ X (st3 _ _ _ _ hv G) (st3 _ _ _ _ hv' G) hs)
  have HG := hide G
  clear hv hv' G
  go_enter Try.func22, Try.ntmps22
  go_wp2_with fail
  refine (unhide HT).mono ?_
  rintro e w1 ⟨rfl, g1⟩
  have HF := hide (grown_trans (unhide HG) g1)
  clear g1 HT
  go_wp2
  go_ret
  exact ⟨rfl, unhide HF⟩

set_option maxHeartbeats 800000 in
theorem markCoefsC : MarkC 25 OwCo mkCo cntCo szCo := by
  rintro w u X F k ⟨v, rfl, hv⟩ hn hs h0 h1
  obtain ⟨ao, cap, rfl⟩ := hv.form
  obtain ⟨n, HN⟩ : ∃ n, Hid (X.length = n) := ⟨_, rfl⟩
  rw [unhide HN] at hv ⊢
  have G : w.grownBy (w.alloc (.cells #[.slice ao n cap] 29)) none := grown_alloc (World.grownBy.refl _ _) _
  have HT := hide (markIntSSSC _ _ X F k (ok3.keep hv G) hn hs h0 h1)
  have e : cntR (cntR lenI) X = cntCo X := rfl
  rw [e] at HT
  have e2 : mkR (mkR mkI lenI) (cntR lenI) X k = mkCo X k := rfl
  rw [e2] at HT
  generalize cntCo X = c at *
  generalize mkCo X k = Y at *
  have HG := hide G
  clear hv G
  go_enter Try.func25, Try.ntmps25
  go_wp2_with fail
  refine (unhide HT).mono ?_
  rintro e w1 ⟨rfl, p1, g1⟩
  have HP := hide p1
  have HF : Hid (Wr F w w1) := (Wr.ofNone (unhide HG)).trans g1
  clear p1 g1 HT
  go_wp2
  go_ret
  exact ⟨rfl, ⟨_, rfl, unhide HP⟩, unhide HF⟩

set_option maxHeartbeats 800000 in
theorem heldCoefsC : HeldC 26 RdCo mkCo cntCo szCo := by
  rintro w u X k ⟨v, rfl, hv⟩ hs h0 h1
  obtain ⟨ao, cap, rfl, _⟩ := id hv
  obtain ⟨n, HN⟩ : ∃ n, Hid ((mkCo X k).length = n) := ⟨_, rfl⟩
  rw [unhide HN] at hv ⊢
  have G : w.grownBy (w.alloc (.cells #[.slice ao n cap] 29)) none := grown_alloc (World.grownBy.refl _ _) _
  have HT := hide (heldIntSSSC _ _ X k (st3 _ _ _ _ hv G) hs h0 h1)
  have e : cntR (cntR lenI) X = cntCo X := rfl
  rw [e] at HT
  generalize cntCo X = c at *
  have HG := hide G
  have hneg : decide (k + (c : Int) < 0) = false := decide_eq_false (by omega)
  clear hv G
  go_enter Try.func26, Try.ntmps26
  go_wp2_with fail
  refine (unhide HT).mono ?_
  rintro e w1 ⟨rfl, g1⟩
  have HF := hide (grown_trans (unhide HG) g1)
  clear g1 HT
  go_wp2
  go_ret
  exact ⟨rfl, unhide HF⟩

def RdCz (w : World) (u : Value) (X : List (List (List Int))) : Prop := ∃ v, u = .agg #[v] ∧ RdZ (RdR (RdZ (RdR (RdZ (RdI .i64))))) w v X
theorem RdR.imp {α : Type} {P Q : World → Value → α → Prop} (h : ∀ w u a, P w u a → Q w u a) {w : World} {v : Value} {L : List α} (hp : RdR P w v L) : RdR Q w v L := by
  obtain ⟨ao, cap, e, hel⟩ := hp
  exact ⟨ao, cap, e, fun i hi => by obtain ⟨b, off, u, e1, c, p⟩ := hel i hi; exact ⟨b, off, u, e1, c, h _ _ _ p⟩⟩
theorem RdCz.rd {w : World} {u : Value} {X : List (List (List Int))} (h : RdCz w u X) : RdCo w u X := by
  obtain ⟨v, e, h⟩ := h
  exact ⟨v, e, RdR.imp (fun _ _ _ h => RdR.imp (fun _ _ _ h => h.1) h.1) h.1⟩

set_option maxHeartbeats 800000 in
theorem szCoefsC (w : World) (u : Value) (X : List (List (List Int))) (left : Nat) (hq : RdCz w u X) (hl : left ≤ 1048576) (r : Int) (HR : Hid ((if szCo X ≤ left then (left : Int) - szCo X else -1) = r)) :
    Calls Try.prog 27 #[u, .int .i64 left] w fun e w' => e = .returned (.int .i64 r) ∧ w.grownBy w' none := by
  obtain ⟨v, rfl, hv⟩ := hq
  obtain ⟨ao, cap, rfl, _⟩ := id hv.1
  obtain ⟨n, HN⟩ : ∃ n, Hid (X.length = n) := ⟨_, rfl⟩
  rw [unhide HN] at hv ⊢
  have G : w.grownBy (w.alloc (.cells #[.slice ao n cap] 53)) none := grown_alloc (World.grownBy.refl _ _) _
  have hst : StR (RdZ (RdR (RdZ (RdR (RdZ (RdI .i64)))))) := by
    have s1 : StR (RdZ (RdI .i64)) := fun _ _ _ _ h g => ⟨RdI.st .i64 _ _ _ _ h.1 g, h.2⟩
    have s2 : StR (RdZ (RdR (RdZ (RdI .i64)))) := fun _ _ _ _ h g => ⟨RdR.st s1 _ _ _ _ h.1 g, h.2⟩
    exact fun _ _ _ _ h g => ⟨RdR.st s2 _ _ _ _ h.1 g, h.2⟩
  have HT := hide (szIntSSSC _ _ X left (hst _ _ _ _ hv G) hl)
  have e : szR (szR lenI) X = szCo X := rfl
  rw [e, unhide HR] at HT
  have HG := hide G
  clear hv G hst e
  by_cases hr : r < 0
  · have hm : r = -1 := by
      have := unhide HR
      split at this <;> omega
    subst hm
    go_enter Try.func27, Try.ntmps27
    go_wp2_with fail
    refine (unhide HT).mono ?_
    rintro e w1 ⟨rfl, rfl⟩
    go_wp2
    go_ret
    exact ⟨rfl, unhide HG⟩
  · have hd : decide (r < 0) = false := decide_eq_false hr
    go_enter Try.func27, Try.ntmps27
    go_wp2_with fail
    refine (unhide HT).mono ?_
    rintro e w1 ⟨rfl, rfl⟩
    go_wp2
    go_ret
    exact ⟨rfl, unhide HG⟩

end Go.Proofs.Ytibgldanmhckiaa

namespace Go.Proofs.Ytibgldanmhckiaa
open Go.RowKit

theorem append_rowR {α : Type} {P : World → Value → α → List Nat → Prop} (hP : OwOk P) {e T : TypeId} (hT : Try.prog.underlying T = some (.slice e)) (hI : (Try.prog.info? e).map (fun i => (i.zero, i.size, i.bytes)) = some (some (.slice none 0 0), 1, 24))
    {w : World} {ops : Array Oper} {rest : List Oper} {o : Oper} {a : Act} {Q : Exit → Act → World → Prop} (hgd : o.guard = none) (s x : Operand)
    (ho : o.op = .call { callee := .builtin .append, args := #[s, x], argTypes := #[T, T] })
    (v : Value) (L : List α) (F : List Nat) (hs : a.eval s = v) (hown : OwR e P w v L F) (hF : F.Nodup) (u : Value) (b : α) (Fb : List Nat) (hu : P w u b Fb) (hFb : Fb.Nodup) (hd : ∀ x ∈ Fb, x ∉ F) (hx : a.eval x = .slice (some ⟨w.heap.size, 0, none⟩) 1 1) (hb : L.length ≤ 1000000) (R : List α) (hR : L ++ [b] = R)
    (h : ∀ v' w' F', OwR e P w' v' R F' → F'.Nodup → (∀ x ∈ F', x ∈ F ∨ x ∈ Fb ∨ w.heap.size ≤ x) → Wr (blk v) w w' → wpList Try.prog ops Q rest (a.put o.dst v') w') :
    wpList Try.prog ops Q (o :: rest) a (w.alloc (.cells #[u] e)) := by
  subst hR
  obtain ⟨i0, hi, hz0, hz1, hz2⟩ := info_parts hI
  obtain ⟨us, Fs, l1, l2, o1, els, rfl⟩ := hown
  obtain ⟨uo, un, uc, rfl⟩ := hP.form _ _ _ _ hu
  have hn := List.nodup_append.1 hF
  refine wpList_append_own_at _ hgd s x T ho 0 e i0 _ 1 24 hT hi hz0 hz1 hz2 rfl (by decide) v L.length _ hs (o1.alloc _) ⟨w.heap.size, 0, none⟩ 1 1 [.slice uo un uc] hx rfl (World.news_of_block (cs := #[.slice uo un uc]) (t := e) (fr := (0, 0)) (heap_alloc_new w _)) (by intro y hy; simp at hy; subst hy; rfl) (by unfold maxLen; omega) (by omega) (Nat.zero_le _) ?_
  intro v' w' h1 h2 _ h4
  have hga : w.grownBy w' v.ownBlock := ⟨h2.os, h2.tape, h2.output, by have h := h2.size; simp at h; omega, fun k hk hr => (h2.block k (by simp; omega) hr).trans (Below.heap_alloc _ _ _ hk)⟩
  have hw : Wr (blk v) w w' := Wr.ofRow hga (fun g e => mem_blk.2 e)
  have hvb : ∀ y, y ∈ blk v' → y ∈ blk v ∨ w.heap.size ≤ y := fun y hy => by
    rcases h4 with h4 | h4
    · exact .inl (mem_blk.2 (by rw [← h4]; exact mem_blk.1 hy))
    · have e1 := mem_blk.1 hy
      rw [h4] at e1
      have e2 : (w.alloc (.cells #[.slice uo un uc] e)).heap.size = y := Option.some.inj e1
      exact .inr (by simp at e2; omega)
  have hfl : (Fs ++ [Fb]).flatten = Fs.flatten ++ Fb := by simp
  have hlt : ∀ y ∈ Fs.flatten, y < w.heap.size := fun y hy => by
    obtain ⟨l, hl, hyl⟩ := List.mem_flatten.1 hy
    obtain ⟨i, hi, rfl⟩ := List.mem_iff_getElem.1 hl
    exact hP.lt w _ _ _ (els i (by omega)) y (by simpa [hi] using hyl)
  refine h v' w' (blk v' ++ (Fs ++ [Fb]).flatten) ⟨us ++ [.slice uo un uc], Fs ++ [Fb], by simp [l1], by simp [l2], ?_, fun i hi => ?_, rfl⟩ ?_ ?_ hw
  · rw [List.length_append]; exact h1
  · by_cases hil : i < L.length
    · have e1 : (us ++ [Value.slice uo un uc]).getD i (.slice none 0 0) = us.getD i (.slice none 0 0) := by simp [List.getElem?_append_left (show i < us.length by omega)]
      have e2 : (Fs ++ [Fb]).getD i [] = Fs.getD i [] := by simp [List.getElem?_append_left (show i < Fs.length by omega)]
      rw [e1, e2, List.getElem_append_left hil]
      exact hP.wr (els i hil) hw (fun y hy hy2 => hn.2.2 y hy2 y (flat_in (by omega) y hy) rfl)
    · have hie : i = L.length := by rw [List.length_append] at hi; simp at hi; omega
      subst hie
      have e1 : (us ++ [Value.slice uo un uc]).getD L.length (.slice none 0 0) = .slice uo un uc := by rw [← l1]; simp
      have e2 : (Fs ++ [Fb]).getD L.length [] = Fb := by rw [← l2]; simp
      rw [e1, e2, List.getElem_append_right (Nat.le_refl _)]
      simp only [Nat.sub_self, List.getElem_cons_zero]
      exact hP.wr hu hw (fun y hy hy2 => hd y hy (by simp [hy2]))
  · rw [hfl]
    refine List.nodup_append.2 ⟨by unfold blk; cases v'.ownBlock <;> simp, List.nodup_append.2 ⟨hn.2.1, hFb, fun y hy z hz => ?_⟩, fun y hy z hz => ?_⟩
    · rintro rfl
      exact hd y hz (by simp [hy])
    · rintro rfl
      rcases List.mem_append.1 hz with hz | hz
      · rcases hvb y hy with h5 | h5
        · exact hn.2.2 y h5 y hz rfl
        · have := hlt y hz; omega
      · rcases hvb y hy with h5 | h5
        · exact hd y hz (by simp [h5])
        · have := hP.lt w _ _ _ hu y hz; omega
  · intro y hy
    rw [hfl] at hy
    rcases List.mem_append.1 hy with hy | hy
    · rcases hvb y hy with h5 | h5
      · exact .inl (by simp [h5])
      · exact .inr (.inr h5)
    · rcases List.mem_append.1 hy with hy | hy
      · exact .inl (by simp [hy])
      · exact .inr (.inl hy)

/-- The same, in a region that draws its order. -/
theorem step_append_rowR {α : Type} {P : World → Value → α → List Nat → Prop} (hP : OwOk P) {e T : TypeId} (hT : Try.prog.underlying T = some (.slice e)) (hI : (Try.prog.info? e).map (fun i => (i.zero, i.size, i.bytes)) = some (some (.slice none 0 0), 1, 24))
    {w : World} {ops : Array Oper} {o : Oper} {a : Act} {K : Act → World → Prop} {Q : Exit → Act → World → Prop} {E : Prop} (hgd : o.guard = none) (s x : Operand)
    (ho : o.op = .call { callee := .builtin .append, args := #[s, x], argTypes := #[T, T] })
    (v : Value) (L : List α) (F : List Nat) (hs : a.eval s = v) (hown : OwR e P w v L F) (hF : F.Nodup) (u : Value) (b : α) (Fb : List Nat) (hu : P w u b Fb) (hFb : Fb.Nodup) (hd : ∀ x ∈ Fb, x ∉ F) (hx : a.eval x = .slice (some ⟨w.heap.size, 0, none⟩) 1 1) (hb : L.length ≤ 1000000) (R : List α) (hR : L ++ [b] = R)
    (h : ∀ v' w' F', OwR e P w' v' R F' → F'.Nodup → (∀ x ∈ F', x ∈ F ∨ x ∈ Fb ∨ w.heap.size ≤ x) → Wr (blk v) w w' → K (a.put o.dst v') w') :
    if Region.wanted o (yielded ops a.tmps) = true then Oper.wp Try.prog o a (w.alloc (.cells #[u] e)) K Q else E := by
  subst hR
  obtain ⟨i0, hi, hz0, hz1, hz2⟩ := info_parts hI
  obtain ⟨us, Fs, l1, l2, o1, els, rfl⟩ := hown
  obtain ⟨uo, un, uc, rfl⟩ := hP.form _ _ _ _ hu
  have hn := List.nodup_append.1 hF
  refine step_append_lies _ hgd s x T ho 0 e i0 _ 1 24 hT hi hz0 hz1 hz2 rfl (by decide) v L.length _ hs (o1.alloc _) ⟨w.heap.size, 0, none⟩ 1 1 [.slice uo un uc] hx rfl (World.news_of_block (cs := #[.slice uo un uc]) (t := e) (fr := (0, 0)) (heap_alloc_new w _)) (by intro y hy; simp at hy; subst hy; rfl) (by omega) (by unfold maxLen; omega) (by omega) (Nat.zero_le _) _ rfl ?_
  intro g0 cap0 w' h1 h2 h4' _
  obtain ⟨v', hv'⟩ : ∃ v', Value.slice (some ⟨g0, 0, none⟩) (L.length + 1) cap0 = v' := ⟨_, rfl⟩
  have h4 : v'.ownBlock = v.ownBlock ∨ v'.ownBlock = some (w.alloc (.cells #[.slice uo un uc] e)).heap.size := by
    rcases h4' with h5 | h5
    · left; rw [← hv', h5]; rfl
    · right; rw [← hv', ← h5]; rfl
  rw [hv'] at h1 ⊢
  clear hv' h4'
  have hga : w.grownBy w' v.ownBlock := ⟨h2.os, h2.tape, h2.output, by have h := h2.size; simp at h; omega, fun k hk hr => (h2.block k (by simp; omega) hr).trans (Below.heap_alloc _ _ _ hk)⟩
  have hw : Wr (blk v) w w' := Wr.ofRow hga (fun g e => mem_blk.2 e)
  have hvb : ∀ y, y ∈ blk v' → y ∈ blk v ∨ w.heap.size ≤ y := fun y hy => by
    rcases h4 with h4 | h4
    · exact .inl (mem_blk.2 (by rw [← h4]; exact mem_blk.1 hy))
    · have e1 := mem_blk.1 hy
      rw [h4] at e1
      have e2 : (w.alloc (.cells #[.slice uo un uc] e)).heap.size = y := Option.some.inj e1
      exact .inr (by simp at e2; omega)
  have hfl : (Fs ++ [Fb]).flatten = Fs.flatten ++ Fb := by simp
  have hlt : ∀ y ∈ Fs.flatten, y < w.heap.size := fun y hy => by
    obtain ⟨l, hl, hyl⟩ := List.mem_flatten.1 hy
    obtain ⟨i, hi, rfl⟩ := List.mem_iff_getElem.1 hl
    exact hP.lt w _ _ _ (els i (by omega)) y (by simpa [hi] using hyl)
  refine h v' w' (blk v' ++ (Fs ++ [Fb]).flatten) ⟨us ++ [.slice uo un uc], Fs ++ [Fb], by simp [l1], by simp [l2], ?_, fun i hi => ?_, rfl⟩ ?_ ?_ hw
  · rw [List.length_append]; exact h1
  · by_cases hil : i < L.length
    · have e1 : (us ++ [Value.slice uo un uc]).getD i (.slice none 0 0) = us.getD i (.slice none 0 0) := by simp [List.getElem?_append_left (show i < us.length by omega)]
      have e2 : (Fs ++ [Fb]).getD i [] = Fs.getD i [] := by simp [List.getElem?_append_left (show i < Fs.length by omega)]
      rw [e1, e2, List.getElem_append_left hil]
      exact hP.wr (els i hil) hw (fun y hy hy2 => hn.2.2 y hy2 y (flat_in (by omega) y hy) rfl)
    · have hie : i = L.length := by rw [List.length_append] at hi; simp at hi; omega
      subst hie
      have e1 : (us ++ [Value.slice uo un uc]).getD L.length (.slice none 0 0) = .slice uo un uc := by rw [← l1]; simp
      have e2 : (Fs ++ [Fb]).getD L.length [] = Fb := by rw [← l2]; simp
      rw [e1, e2, List.getElem_append_right (Nat.le_refl _)]
      simp only [Nat.sub_self, List.getElem_cons_zero]
      exact hP.wr hu hw (fun y hy hy2 => hd y hy (by simp [hy2]))
  · rw [hfl]
    refine List.nodup_append.2 ⟨by unfold blk; cases v'.ownBlock <;> simp, List.nodup_append.2 ⟨hn.2.1, hFb, fun y hy z hz => ?_⟩, fun y hy z hz => ?_⟩
    · rintro rfl
      exact hd y hz (by simp [hy])
    · rintro rfl
      rcases List.mem_append.1 hz with hz | hz
      · rcases hvb y hy with h5 | h5
        · exact hn.2.2 y h5 y hz rfl
        · have := hlt y hz; omega
      · rcases hvb y hy with h5 | h5
        · exact hd y hz (by simp [h5])
        · have := hP.lt w _ _ _ hu y hz; omega
  · intro y hy
    rw [hfl] at hy
    rcases List.mem_append.1 hy with hy | hy
    · rcases hvb y hy with h5 | h5
      · exact .inl (by simp [h5])
      · exact .inr (.inr h5)
    · rcases List.mem_append.1 hy with hy | hy
      · exact .inl (by simp [hy])
      · exact .inr (.inl hy)

end Go.Proofs.Ytibgldanmhckiaa

namespace Go.Proofs.Ytibgldanmhckiaa
open Go.RowKit

/-- Coefficients that are being made: in a box, with another one for the answer. -/
structure Em (w wr : World) (b0 : Obj) (pv : Value) (L : List (List (List Int))) (F : List Nat) : Prop where
  own : Ow3 wr pv L F
  nd : F.Nodup
  lo : ∀ g ∈ F, w.heap.size + 3 ≤ g
  fb : wr.heap[w.heap.size]? = some b0
  rb : wr.heap[w.heap.size + 1]? = some (.cells #[.slice none 0 0] 29 (0, 0))
  cb : wr.heap[w.heap.size + 2]? = some (.cells #[pv] 29 (0, 0))
  grown : w.grownBy wr none
theorem Em.size {w wr : World} {b0 : Obj} {pv : Value} {L : List (List (List Int))} {F : List Nat} (h : Em w wr b0 pv L F) : w.heap.size + 3 ≤ wr.heap.size := by
  have := (Array.getElem?_eq_some_iff.1 h.cb).1; omega
/-- Another row was written. -/
theorem Em.wr {w wr w' : World} {b0 : Obj} {pv : Value} {L : List (List (List Int))} {F G : List Nat} (h : Em w wr b0 pv L F) (g : Wr G wr w') (h1 : ∀ x ∈ G, w.heap.size + 3 ≤ x) (h2 : ∀ x ∈ F, x ∉ G) : Em w w' b0 pv L F := by
  have hs := h.size
  refine ⟨ok3.wr h.own g h2, h.nd, h.lo, (g.block _ (by omega) (fun e => ?_)).trans h.fb, (g.block _ (by omega) (fun e => ?_)).trans h.rb, (g.block _ (by omega) (fun e => ?_)).trans h.cb, g.new h.grown (fun x hx => by have := h1 x hx; omega)⟩
  all_goals have := h1 _ e; omega
theorem Em.new {w wr w' : World} {b0 : Obj} {pv : Value} {L : List (List (List Int))} {F : List Nat} (h : Em w wr b0 pv L F) (g : wr.grownBy w' none) : Em w w' b0 pv L F := h.wr (Wr.ofNone (F := []) g) (fun x hx => by simp at hx) (fun x _ => by simp)
/-- The box holds other ones. -/
theorem Em.put {w wr w' : World} {b0 : Obj} {pv pv' : Value} {L L' : List (List (List Int))} {F F' : List Nat} (h : Em w wr b0 pv L F) (g : Wr (blk pv) wr w') (ho : Ow3 w' pv' L' F') (hn : F'.Nodup) (hl : ∀ g ∈ F', w.heap.size + 3 ≤ g) (hb : ∀ g ∈ blk pv, w.heap.size + 3 ≤ g) : Em w (w'.setCell ⟨w.heap.size + 2, 0, none⟩ pv') b0 pv' L' F' := by
  have hs := h.size
  have G := grown_set w' (w.heap.size + 2) 0 pv'
  have hfb : w'.heap[w.heap.size]? = some b0 := (g.block _ (by omega) (fun e => by have := hb _ e; omega)).trans h.fb
  have hrb := (g.block (w.heap.size + 1) (by omega) (fun e => by have := hb _ e; omega)).trans h.rb
  have hcb := (g.block (w.heap.size + 2) (by omega) (fun e => by have := hb _ e; omega)).trans h.cb
  refine ⟨ok3.wr ho (Wr.ofRow (F := [w.heap.size + 2]) G (fun x e => by have := Option.some.inj e; simp [this])) (fun x hx e => by simp at e; have := hl x hx; omega), hn, hl, grown_atT G hfb (by simp), grown_atT G hrb (by simp), ?_, ?_⟩
  · exact heap_setCell_same w' _ 0 _ _ _ hcb
  · exact grown_new (g.new h.grown (fun x hx => by have := hb x hx; omega)) G (fun k e => by have := Option.some.inj e; omega)

theorem empty_next (bn : Nat → Nat) (i : Nat) : emptyG i bn ++ [List.replicate (bn i) noughts] = emptyG (i + 1) bn := by unfold emptyG; rw [List.range_succ, List.map_append]; rfl
theorem rep_next (k : Nat) : List.replicate k noughts ++ [noughts] = List.replicate (k + 1) noughts := by rw [List.replicate_succ']
theorem info_i11 : (Try.prog.info? 3).map (fun i => (i.zero, i.size, i.bytes)) = some (some (.int .i64 0), 1, 8) := by kernel_rfl

set_option maxRecDepth 20000 in
set_option maxHeartbeats 3200000 in
theorem specEmpty (p wd ht rs : Int) (ao : Option Addr) (n cap : Nat) (C : Nat → Nat → Int) (w : World) (hr : RdC w ao n C) (b : Bool) (HFB : Hid (frameB p wd ht rs n C = b)) (X : List (List (List Int))) (HX : Hid (emptyF b wd ht n C = X)) :
    Calls Try.prog 19 #[.agg #[.int .i64 p, .int .i64 wd, .int .i64 ht, .int .i64 rs, .slice ao n cap]] w fun e w' => ∃ u F, e = .returned u ∧ OwCo w' u X F ∧ F.Nodup ∧ (∀ g ∈ F, w.heap.size ≤ g) ∧ w.grownBy w' none := by
  obtain ⟨W3, hW3⟩ : ∃ W3, (((w.alloc (.cells #[.int .i64 p, .int .i64 wd, .int .i64 ht, .int .i64 rs, .slice ao n cap] 26)).alloc (.cells #[.slice none 0 0] 29)).alloc (.cells #[.slice none 0 0] 29)) = W3 := ⟨_, rfl⟩
  have H0 : Hid (Em w W3 (.cells #[.int .i64 p, .int .i64 wd, .int .i64 ht, .int .i64 rs, .slice ao n cap] 26) (.slice none 0 0) [] []) := by
    refine ⟨OwR.nil _ _ _, List.nodup_nil, fun g hg => by simp at hg, ?_, ?_, ?_, ?_⟩
    · rw [← hW3, Below.heap_alloc _ _ _ (by simp; omega), Below.heap_alloc _ _ _ (by simp)]
      exact heap_alloc_new w _
    · rw [← hW3, Below.heap_alloc _ _ _ (by simp)]
      have := heap_alloc_new (w.alloc (.cells #[.int .i64 p, .int .i64 wd, .int .i64 ht, .int .i64 rs, .slice ao n cap] 26)) (.cells #[.slice none 0 0] 29)
      simpa using this
    · rw [← hW3]
      have := heap_alloc_new ((w.alloc (.cells #[.int .i64 p, .int .i64 wd, .int .i64 ht, .int .i64 rs, .slice ao n cap] 26)).alloc (.cells #[.slice none 0 0] 29)) (.cells #[.slice none 0 0] 29)
      simpa using this
    · rw [← hW3]; exact grown_alloc (grown_alloc (grown_alloc (World.grownBy.refl _ _) _) _) _
  have HW := hide hW3
  have HR := hide hr
  have HFO := hide (specFrameOk p wd ht rs ao n cap C W3 (hr.grown (unhide H0).grown) b HFB)
  have HEND : Hid (∀ (wr : World) (po : Option Addr) (pn pc : Nat) (L : List (List (List Int))) (F : List Nat), Em w wr (.cells #[.int .i64 p, .int .i64 wd, .int .i64 ht, .int .i64 rs, .slice ao n cap] 26) (.slice po pn pc) L F → L = X →
      (wr.setCell ⟨w.heap.size + 1, 0, none⟩ (.slice po pn pc)).cell? ⟨w.heap.size + 1, 0, none⟩ = some (.slice po pn pc) ∧ OwCo (wr.setCell ⟨w.heap.size + 1, 0, none⟩ (.slice po pn pc)) (.agg #[.slice po pn pc]) X F ∧ F.Nodup ∧ (∀ g ∈ F, w.heap.size ≤ g) ∧ w.grownBy (wr.setCell ⟨w.heap.size + 1, 0, none⟩ (.slice po pn pc)) none) := by
    intro wr po pn pc L F h e
    subst e
    have G := grown_set wr (w.heap.size + 1) 0 (.slice po pn pc)
    refine ⟨?_, ⟨_, rfl, ok3.wr h.own (Wr.ofRow (F := [w.heap.size + 1]) G (fun x e => by have := Option.some.inj e; simp [this])) (fun x hx e => by simp at e; have := h.lo x hx; omega)⟩, h.nd, fun g hg => by have := h.lo g hg; omega, grown_new h.grown G (fun k e => by have := Option.some.inj e; omega)⟩
    rw [cell_of_row _ _ 0 _ _ (0, 0) (heap_setCell_same wr _ 0 _ _ _ h.rb)]; rfl
  clear hW3 hr
  cases b with
  | false =>
    have hX : ([] : List (List (List Int))) = X := by rw [← unhide HX]; rfl
    go_enter Try.func19, Try.ntmps19
    go_wp2_with fail
    rw [unhide HW]
    refine (unhide HFO).mono ?_
    rintro e w1 ⟨rfl, g1⟩
    have h1 := (unhide H0).new g1
    have HE := hide (unhide HEND w1 none 0 0 [] [] h1 hX)
    have c0 : w1.cell? ⟨w.heap.size + 1 + 1, 0, none⟩ = some (.slice none 0 0) := by rw [cell_of_row w1 _ 0 _ _ (0, 0) h1.cb]; rfl
    have d0 : w1.cell? ⟨w.heap.size + 1, 0, none⟩ = some (.slice none 0 0) := by rw [cell_of_row w1 _ 0 _ _ (0, 0) h1.rb]; rfl
    have k0 : w1.frozen? ⟨w.heap.size + 1, 0, none⟩ = false := frozen_of_row w1 _ 0 _ _ h1.rb
    clear g1 h1 HFO H0 HW HEND
    go_wp2
    refine bodyPost_ret (v := .agg #[.slice none 0 0]) (by have hcc := (unhide HE).1; simp [results, Try.results19, go_sem, hcc]) rfl ?_
    exact ⟨_, [], rfl, (unhide HE).2⟩
  | true =>
    have hg := geo_of (unhide HFB)
    have hn4 := hg.n4
    have HG := hide hg
    obtain ⟨bn, HBN⟩ : ∃ bn : Nat → Nat, Hid ((fun c => bwG wd n C c * bhG ht n C c) = bn) := ⟨_, rfl⟩
    have HXE : Hid (emptyG n bn = X) := by rw [← unhide HX, ← unhide HBN]; rfl
    clear hg HX
    go_enter Try.func19, Try.ntmps19
    go_wp2_with fail
    rw [unhide HW]
    refine (unhide HFO).mono ?_
    rintro e w1 ⟨rfl, g1⟩
    have H1 := hide ((unhide H0).new g1)
    clear g1 HFO H0 HW
    go_wp2
    go_loopw [4] (fun iv wr => ∃ (i : Nat) (po : Option Addr) (pn pc : Nat) (F : List Nat), i ≤ n ∧ iv = .int .i64 i ∧ Hid (Em w wr (.cells #[.int .i64 p, .int .i64 wd, .int .i64 ht, .int .i64 rs, .slice ao n cap] 26) (.slice po pn pc) (emptyG i bn) F)) (fun iv _ => n - (intOf iv).toNat)
    case atStart => exact ⟨0, none, 0, 0, [], Nat.zero_le _, rfl, H1⟩
    case round =>
      clear H1
      obtain ⟨i, po, pn, pc, F, hi, rfl, hem⟩ := hrel
      obtain ⟨f0, f1, f2, f3, f4⟩ := frameCells' (unhide hem).fb
      by_cases hlt : i < n
      · have hd := dims_of (unhide HG) i hlt
        have HT := hide (specBlocks p wd ht rs ao n cap C wr ((unhide HR).grown (unhide hem).grown) _ _ (unhide HG) i hlt _ _ rfl rfl)
        rw [hd.bw, hd.bh] at HT
        have hbw := hd.bw1
        have hbh := hd.bh1
        have hbn : bwG wd n C i * bhG ht n C i = bn i := by rw [← unhide HBN]
        generalize bwG wd n C i = bw at *
        generalize bhG ht n C i = bh at *
        have hm : bw * bh ≤ 128 * 128 := Nat.mul_le_mul hbw.2 hbh.2
        rw [hbn] at hm
        have e3 : (bw : Int) * (bh : Int) = (bn i : Int) := by rw [← hbn]; simp
        obtain ⟨m, HM⟩ : ∃ m, Hid (bn i = m) := ⟨_, rfl⟩
        rw [unhide HM] at hm e3
        have e4 := i64_in (m : Int) (by omega)
        have hiI : (i : Int) < (n : Int) := by omega
        clear hd hbn
        go_wp2_with fail
        refine (unhide HT).mono ?_
        rintro e w2 ⟨rfl, g2⟩
        have h2 := (unhide hem).new g2
        have H3 := hide (h2.new (World.grownBy_alloc w2 (.cells #[] 32) none))
        have HO3 : Hid (Ow2 (w2.alloc (.cells #[] 32)) (.slice (some ⟨w2.heap.size, 0, none⟩) 0 0) (List.replicate 0 noughts) (blk (.slice (some ⟨w2.heap.size, 0, none⟩) 0 0))) := OwR.made (fun w => OwI.nil .i64 3 w) (World.ownsRow_lit w2 #[] 0 (Nat.zero_le _) (by unfold maxLen; omega) rfl)
        have HL3 : Hid (∀ x ∈ blk (.slice (some ⟨w2.heap.size, 0, none⟩) 0 0), w.heap.size + 3 ≤ x ∧ x ∉ F) := fun x hx => by
          have e9 : w2.heap.size = x := Option.some.inj (mem_blk.1 hx)
          have h5 := h2.size
          exact ⟨by omega, fun hF => by have := ok3.lt _ _ _ _ h2.own x hF; omega⟩
        clear g2 h2 HT hem f0 f1 f2 f3 f4
        go_wp2
        go_loopw [7, 8] (fun v kv wr => ∃ (k : Nat) (vo : Option Addr) (vn vc : Nat) (F2 : List Nat), k ≤ m ∧ v = .slice vo vn vc ∧ kv = .int .i64 k ∧ Hid (Ow2 wr (.slice vo vn vc) (List.replicate k noughts) F2) ∧ Hid F2.Nodup ∧ Hid (∀ x ∈ F2, w.heap.size + 3 ≤ x ∧ x ∉ F) ∧ Hid (Em w wr (.cells #[.int .i64 p, .int .i64 wd, .int .i64 ht, .int .i64 rs, .slice ao n cap] 26) (.slice po pn pc) (emptyG i bn) F)) (fun _ kv _ => m - (intOf kv).toNat)
        case atStart => exact ⟨0, some ⟨w2.heap.size, 0, none⟩, 0, 0, _, Nat.zero_le _, rfl, rfl, HO3, blk_nodup _, HL3, H3⟩
        case round =>
          clear HO3 HL3 H3
          obtain ⟨k, vo, vn, vc, F2, hk, rfl, rfl, ho, hn2, hl2, hem⟩ := hrel
          by_cases hkm : k < m
          · have hkI : (k : Int) < (m : Int) := by omega
            obtain ⟨i0, hi, hz0, hz1, hz2⟩ := info_parts info_i11
            go_wp2_with (at_make; refine wpList_make_full _ rfl _ _ 32 rfl 0 3 i0 (.int .i64 0) 1 Try.underlying32 hi hz0 hz1 .i64 .i64 64 64 64 rfl rfl rfl rfl (by rw [hz2]; omega) (by unfold maxLen; omega) (Nat.zero_le _) ?_)
            intro w4 hown hgrow
            rw [toList_madeCells_one] at hown
            have hu : OwI .i64 3 w4 (.slice (some ⟨wr.heap.size, 0, none⟩) 64 64) noughts (blk (.slice (some ⟨wr.heap.size, 0, none⟩) 64 64)) := by
              refine ⟨?_, rfl⟩
              have e9 : noughts.map (Value.int .i64) = List.replicate 64 (.int .i64 0) := by unfold noughts; rw [List.map_replicate]
              rw [e9]
              exact hown
            have HU := hide hu
            have HO4 := hide (ok2.keep (unhide ho) hgrow)
            have H4 := hide ((unhide hem).new hgrow)
            have HDU : Hid (∀ x ∈ blk (.slice (some ⟨wr.heap.size, 0, none⟩) 64 64), x ∉ F2 ∧ x ∉ F ∧ w.heap.size + 3 ≤ x) := fun x hx => by
              have e9 : wr.heap.size = x := Option.some.inj (mem_blk.1 hx)
              have h5 := (unhide hem).size
              exact ⟨fun h => by have := ok2.lt _ _ _ _ (unhide ho) x h; omega, fun h => by have := ok3.lt _ _ _ _ (unhide hem).own x h; omega, by omega⟩
            have HRL : Hid ((List.replicate k noughts).length ≤ 1000000) := by unfold Hid; rw [List.length_replicate]; omega
            clear hown hgrow hu hi hz0 hz1 hz2 ho hem
            go_wp2_with (at_builtin; refine append_rowR ok1 Try.underlying42 infoIntSS rfl _ _ rfl (.slice vo vn vc) (List.replicate k noughts) F2 rfl (unhide HO4) (unhide hn2) _ noughts _ (unhide HU) (blk_nodup _) (fun x hx => (unhide HDU x hx).1) rfl (unhide HRL) _ (rep_next k) ?_)
            intro v5 w5 F5 o5 n5 m5 g5
            obtain ⟨vo5, vc5, rfl⟩ := o5.form
            have HO5 := hide o5
            have HN5 := hide n5
            have hsub : ∀ x ∈ blk (.slice vo vn vc), x ∈ F2 := by
              obtain ⟨us, Fs, _, _, _, _, e9⟩ := unhide HO4
              intro x hx
              rw [e9]
              simp [hx]
            have HL5 : Hid (∀ x ∈ F5, w.heap.size + 3 ≤ x ∧ x ∉ F) := fun x hx => by
              rcases m5 x hx with h | h | h
              · exact unhide hl2 x h
              · exact ⟨(unhide HDU x h).2.2, (unhide HDU x h).2.1⟩
              · have h5 := (unhide H4).size
                exact ⟨by omega, fun hF => by have := ok3.lt _ _ _ _ (unhide H4).own x hF; omega⟩
            have H5 := hide ((unhide H4).wr g5 (fun x hx => (unhide hl2 x (hsub x hx)).1) (fun x hx hx2 => (unhide hl2 x (hsub x hx2)).2 hx))
            clear o5 n5 m5 g5 hsub HO4 H4 HU HDU hn2 hl2 HRL
            go_wp2
            go_roundw
            case rel => exact ⟨k + 1, vo5, _, vc5, F5, by omega, rfl, by go_num, HO5, HN5, HL5, H5⟩
            case measure => simp [intOf]; omega
          · obtain rfl : k = m := by omega
            obtain ⟨vo', vc', e8⟩ := (unhide ho).form
            obtain ⟨rfl, rfl, rfl⟩ : vo = vo' ∧ vn = (List.replicate k noughts).length ∧ vc = vc' := by simpa using e8
            clear e8
            have c2 : wr.cell? ⟨w.heap.size + 1 + 1, 0, none⟩ = some (.slice po pn pc) := by rw [cell_of_row wr _ 0 _ _ (0, 0) (unhide hem).cb]; rfl
            have HRL : Hid ((emptyG i bn).length ≤ 1000000) := by unfold Hid emptyG; rw [List.length_map, List.length_range]; omega
            have HEN : Hid (emptyG i bn ++ [List.replicate k noughts] = emptyG (i + 1) bn) := by unfold Hid; rw [← unhide HM]; exact empty_next bn i
            obtain ⟨vn, HVN⟩ : ∃ vn, Hid ((List.replicate k noughts).length = vn) := ⟨_, rfl⟩
            rw [unhide HVN] at ho ⊢
            go_wp2_with (at_builtin; refine append_rowR ok2 Try.underlying27 infoIntSSS rfl _ _ rfl (.slice po pn pc) (emptyG i bn) F rfl (unhide hem).own (unhide hem).nd _ (List.replicate k noughts) F2 (unhide ho) (unhide hn2) (fun x hx => (unhide hl2 x hx).2) rfl (unhide HRL) _ (unhide HEN) ?_)
            intro v6 w6 F6 o6 n6 m6 g6
            obtain ⟨vo6, vc6, rfl⟩ := o6.form
            have hsub : ∀ x ∈ blk (.slice po pn pc), w.heap.size + 3 ≤ x := by
              obtain ⟨us, Fs, _, _, _, _, e9⟩ := (unhide hem).own
              intro x hx
              exact (unhide hem).lo x (by rw [e9]; simp [hx])
            have hl6 : ∀ x ∈ F6, w.heap.size + 3 ≤ x := fun x hx => by
              rcases m6 x hx with h | h | h
              · exact (unhide hem).lo x h
              · exact (unhide hl2 x h).1
              · have := (unhide hem).size; omega
            have H6 := hide ((unhide hem).put g6 o6 n6 hl6 hsub)
            have hcb6 := (g6.block (w.heap.size + 2) (by have := (unhide hem).size; omega) (fun e => by have := hsub _ e; omega)).trans (unhide hem).cb
            have c6 : w6.cell? ⟨w.heap.size + 1 + 1, 0, none⟩ = some (.slice po pn pc) := by rw [cell_of_row w6 _ 0 _ _ (0, 0) hcb6]; rfl
            have k6 : w6.frozen? ⟨w.heap.size + 1 + 1, 0, none⟩ = false := frozen_of_row w6 _ 0 _ _ hcb6
            obtain ⟨el, HEL⟩ : ∃ el, Hid ((emptyG (i + 1) bn).length = el) := ⟨_, rfl⟩
            rw [unhide HEL] at H6 ⊢
            clear o6 n6 m6 g6 hl6 hsub hem ho hn2 hl2 HRL HEN hcb6 c2
            go_wp2
            go_roundw
            case rel => exact ⟨i + 1, vo6, el, vc6, F6, by omega, by go_num, H6⟩
            case measure => simp [intOf]; omega
      · obtain rfl : i = n := by omega
        have c0 : wr.cell? ⟨w.heap.size + 1 + 1, 0, none⟩ = some (.slice po pn pc) := by rw [cell_of_row wr _ 0 _ _ (0, 0) (unhide hem).cb]; rfl
        have d0 : wr.cell? ⟨w.heap.size + 1, 0, none⟩ = some (.slice none 0 0) := by rw [cell_of_row wr _ 0 _ _ (0, 0) (unhide hem).rb]; rfl
        have k0 : wr.frozen? ⟨w.heap.size + 1, 0, none⟩ = false := frozen_of_row wr _ 0 _ _ (unhide hem).rb
        have HE := hide (unhide HEND wr po pn pc _ F (unhide hem) (unhide HXE))
        clear hem HEND
        go_wp2
        refine bodyPost_ret (v := .agg #[.slice po pn pc]) (by have hcc := (unhide HE).1; simp [results, Try.results19, go_sem, hcc]) rfl ?_
        exact ⟨_, F, rfl, (unhide HE).2⟩

end Go.Proofs.Ytibgldanmhckiaa

namespace Go.Proofs.Ytibgldanmhckiaa
open Go.RowKit

/-- A list of blocks in which one part is another one. -/
theorem parts_set {B : List Nat} {Fs : List (List Nat)} (h : (B ++ Fs.flatten).Nodup) {i : Nat} (hi : i < Fs.length) {Fi : List Nat} (hn : Fi.Nodup) (hd : ∀ x ∈ Fi, x ∈ Fs.getD i [] ∨ x ∉ B ++ Fs.flatten) :
    (B ++ (Fs.set i Fi).flatten).Nodup ∧ ∀ x ∈ B ++ (Fs.set i Fi).flatten, x ∈ B ++ Fs.flatten ∨ x ∈ Fi := by
  have hp := List.nodup_append.1 h
  have hmem : ∀ x, x ∈ (Fs.set i Fi).flatten → x ∈ Fs.flatten ∨ x ∈ Fi := by
    intro x hx
    obtain ⟨l, hl, hxl⟩ := List.mem_flatten.1 hx
    rcases List.mem_or_eq_of_mem_set hl with hl | rfl
    · exact .inl (List.mem_flatten.2 ⟨l, hl, hxl⟩)
    · exact .inr hxl
  have hdj : ∀ j, j < Fs.length → j ≠ i → ∀ x ∈ Fi, x ∉ Fs.getD j [] := fun j hj hji x hx hx2 => by
    rcases hd x hx with h5 | h5
    · exact flat_apart hp.2.1 hi hj (fun e => hji e.symm) x h5 hx2
    · exact h5 (by simp [flat_in hj x hx2])
  refine ⟨List.nodup_append.2 ⟨hp.1, List.pairwise_flatten.2 ⟨fun l hl => ?_, ?_⟩, fun a ha b hb => ?_⟩, fun x hx => ?_⟩
  · rcases List.mem_or_eq_of_mem_set hl with hl | rfl
    · exact (List.pairwise_flatten.1 hp.2.1).1 l hl
    · exact hn
  · rw [List.pairwise_iff_getElem]
    intro p q hp1 hq1 hpq x hx y hy
    rw [List.length_set] at hp1 hq1
    rintro rfl
    have hin : ∀ r (hr : r < Fs.length), x ∈ (Fs.set i Fi)[r]'(by simpa using hr) → (r = i ∧ x ∈ Fi) ∨ (r ≠ i ∧ x ∈ Fs.getD r []) := by
      intro r hr hxr
      by_cases e9 : i = r
      · subst e9; simp at hxr; exact .inl ⟨rfl, hxr⟩
      · rw [List.getElem_set_ne e9] at hxr
        exact .inr ⟨fun e => e9 e.symm, by simpa [hr] using hxr⟩
    rcases hin p hp1 hx with ⟨e1, x1⟩ | ⟨e1, x1⟩ <;> rcases hin q hq1 hy with ⟨e2, x2⟩ | ⟨e2, x2⟩
    · omega
    · exact hdj q hq1 e2 x x1 x2
    · exact hdj p hp1 e1 x x2 x1
    · exact flat_apart hp.2.1 hp1 hq1 (by omega) x x1 x2
  · rintro rfl
    rcases hmem a hb with h5 | h5
    · exact hp.2.2 a ha a h5 rfl
    · rcases hd a h5 with h6 | h6
      · exact hp.2.2 a ha a (flat_in hi a h6) rfl
      · exact h6 (by simp [ha])
  · rcases List.mem_append.1 hx with hx | hx
    · exact .inl (by simp [hx])
    · rcases hmem x hx with h5 | h5
      · exact .inl (by simp [h5])
      · exact .inr h5

/-- An element of a row that is owned becomes another value, which may reach what the old one reached. -/
theorem OwR.swap {α : Type} {e : TypeId} {P : World → Value → α → List Nat → Prop} {w : World} {v : Value} {L : List α} {F : List Nat} (hP : OwOk P) (h : OwR e P w v L F) (hF : F.Nodup) (i : Nat) (hi : i < L.length) : ∃ g cap u Fi, v = .slice (some ⟨g, 0, none⟩) L.length cap ∧ g ∈ F ∧ g ∉ Fi ∧ w.cell? ⟨g, i, none⟩ = some u ∧ (∀ w1, Wr Fi w w1 → w1.frozen? ⟨g, i, none⟩ = false ∧ w1.cell? ⟨g, i, none⟩ = some u) ∧ P w u L[i] Fi ∧ Fi.Nodup ∧ (∀ x ∈ Fi, x ∈ F) ∧
    ∀ w1 u' a' Fi', Wr Fi w w1 → P w1 u' a' Fi' → Fi'.Nodup → (∀ x ∈ Fi', x ∈ Fi ∨ x ∉ F) → ∃ F', OwR e P (w1.setCell ⟨g, i, none⟩ u') v (L.set i a') F' ∧ F'.Nodup ∧ ∀ x ∈ F', x ∈ F ∨ x ∈ Fi' := by
  obtain ⟨us, Fs, h1, h2, h3, h4, rfl⟩ := h
  obtain ⟨ao, cap, rfl⟩ := own_form h3
  obtain ⟨g, rfl, _, _⟩ := own_at h3 (by omega)
  have hn := List.nodup_append.1 hF
  have hgb : g ∈ blk (Value.slice (some ⟨g, 0, none⟩) L.length cap) := mem_blk.2 rfl
  have hgi : ∀ j, j < L.length → g ∉ Fs.getD j [] := fun j hj hx => hn.2.2 g hgb g (flat_in (by omega) g hx) rfl
  have hil : i < Fs.length := by omega
  have hown : ∀ w1, Wr (Fs.getD i []) w w1 → w1.ownsRow 0 e 1 (.slice (some ⟨g, 0, none⟩) L.length cap) L.length us := fun w1 hw => own_sameAt h3 (fun x hx => hw.block x (h3.lt x hx).2 (by have e9 : g = x := Option.some.inj hx; subst e9; exact hgi i hi))
  have hce : ∀ w1, Wr (Fs.getD i []) w w1 → w1.cell? ⟨g, i, none⟩ = some (us.getD i (.slice none 0 0)) := fun w1 hw => by
    rw [(hown w1 hw).cellAt i (by omega)]
    simp [show i < us.length by omega]
  refine ⟨g, cap, us.getD i (.slice none 0 0), Fs.getD i [], rfl, by simp [hgb], hgi i hi, hce w (Wr.refl _ _), fun w1 hw => ⟨(hown w1 hw).frozenAt i, hce w1 hw⟩, h4 i hi, ?_, fun x hx => by simp [flat_in hil x hx], fun w1 u' a' Fi' hw hp hn' hd => ?_⟩
  · exact (List.pairwise_flatten.1 hn.2.1).1 (Fs.getD i []) (by rw [List.getD_eq_getElem?_getD, List.getElem?_eq_getElem hil]; simp)
  · obtain ⟨p1, p2⟩ := parts_set hF hil hn' hd
    have st := ((hown w1 hw).stored i u')
    have hgF : g ∉ Fi' := fun hx => by
      rcases hd g hx with h5 | h5
      · exact hgi i hi h5
      · exact h5 (by simp [hgb])
    have hw2 : Wr [g] w1 (w1.setCell ⟨g, i, none⟩ u') := Wr.ofRow st.2 (fun x hx => by have := Option.some.inj hx; simp [this])
    refine ⟨_, ⟨us.set i u', Fs.set i Fi', by simp [h1], by simp [h2], by rw [List.length_set]; exact st.1, fun j hj => ?_, rfl⟩, p1, p2⟩
    rw [List.length_set] at hj
    by_cases e9 : i = j
    · subst e9
      have eu : (us.set i u').getD i (.slice none 0 0) = u' := by simp [show i < us.length by omega]
      have ef : (Fs.set i Fi').getD i [] = Fi' := by simp [hil]
      rw [eu, ef]
      simp only [List.getElem_set_self]
      exact hP.wr hp hw2 (fun x hx e => by simp at e; subst e; exact hgF hx)
    · have eu : (us.set i u').getD j (.slice none 0 0) = us.getD j (.slice none 0 0) := by simp [e9]
      have ef : (Fs.set i Fi').getD j [] = Fs.getD j [] := by simp [e9]
      rw [eu, ef, List.getElem_set_ne e9]
      exact hP.wr (hP.wr (h4 j hj) hw (flat_apart hn.2.1 (by omega) (by omega) (fun e => e9 e.symm))) hw2 (fun x hx e => by simp at e; subst e; exact hgi j hj hx)

/-- What is read of a row of structs: each has sz cells. -/
def RdG {α : Type} (sz : Nat) (P : World → (Nat → Value) → α → Prop) (w : World) (v : Value) (L : List α) : Prop :=
  ∃ ao cap, v = .slice ao L.length cap ∧ ∀ i (h : i < L.length), ∃ b off c, ao = some ⟨b, off, none⟩ ∧ (∀ j, j < sz → w.cell? ⟨b, off + i * sz + j, none⟩ = some (c j)) ∧ P w c L[i]
def StG {α : Type} (P : World → (Nat → Value) → α → Prop) : Prop := ∀ w w' c a, P w c a → w.grownBy w' none → P w' c a
theorem RdG.st {α : Type} {sz : Nat} {P : World → (Nat → Value) → α → Prop} (hP : StG P) : StR (RdG sz P) := fun _ _ _ _ ⟨ao, cap, e, h⟩ g =>
  ⟨ao, cap, e, fun i hi => by obtain ⟨b, off, c, e1, h1, h2⟩ := h i hi; exact ⟨b, off, c, e1, fun j hj => g.cell (h1 j hj) (by simp), hP _ _ _ _ h2 g⟩⟩

/-- Who owns a row of structs. -/
def OwG {α : Type} (e : TypeId) (sz : Nat) (P : World → (Nat → Value) → α → List Nat → Prop) (w : World) (v : Value) (L : List α) (F : List Nat) : Prop :=
  ∃ (U : Nat → Nat → Value) (Fs : List (List Nat)), Fs.length = L.length ∧ w.ownsRow 0 e sz v L.length (rowsK L.length sz U) ∧ (∀ i (h : i < L.length), P w (U i) L[i] (Fs.getD i [])) ∧ F = blk v ++ Fs.flatten
structure OkG {α : Type} (P : World → (Nat → Value) → α → List Nat → Prop) : Prop where
  same : ∀ w w' c a F, P w c a F → (∀ g ∈ F, w'.heap[g]? = w.heap[g]?) → P w' c a F
  lt : ∀ w c a F, P w c a F → ∀ g ∈ F, g < w.heap.size

section
variable {α : Type} {e : TypeId} {sz : Nat} {P : World → (Nat → Value) → α → List Nat → Prop} {w : World} {v : Value} {L : List α} {F : List Nat}
theorem OkG.wr (hP : OkG P) {w w' : World} {c : Nat → Value} {a : α} {F G : List Nat} (h : P w c a F) (g : Wr G w w') (hd : ∀ x ∈ F, x ∉ G) : P w' c a F :=
  hP.same w w' c a F h (fun x hx => g.block x (hP.lt w c a F h x hx) (hd x hx))
theorem OkG.keep (hP : OkG P) {w w' : World} {c : Nat → Value} {a : α} {F : List Nat} (h : P w c a F) (g : w.grownBy w' none) : P w' c a F :=
  hP.wr h (Wr.ofNone (F := []) g) (fun x _ => by simp)
theorem OwG.ok (hP : OkG P) : OwOk (OwG e sz P) := by
  refine ⟨?_, ?_, ?_⟩
  · rintro w w' u a F ⟨U, Fs, h2, h3, h4, rfl⟩ hs
    refine ⟨U, Fs, h2, own_sameAt h3 (fun g hg => hs g (by simp [mem_blk.2 hg])), fun i hi => ?_, rfl⟩
    exact hP.same w w' _ _ _ (h4 i hi) (fun g hg => hs g (by have := flat_in (by omega) g hg; simp [this]))
  · rintro w u a F ⟨U, Fs, h2, h3, h4, rfl⟩ g hg
    rcases List.mem_append.1 hg with hg | hg
    · exact (h3.lt g (mem_blk.1 hg)).2
    · obtain ⟨l, hl, hgl⟩ := List.mem_flatten.1 hg
      obtain ⟨i, hi, rfl⟩ := List.mem_iff_getElem.1 hl
      exact hP.lt w _ _ _ (h4 i (by omega)) g (by simpa [hi] using hgl)
  · rintro w u a F ⟨U, Fs, h2, h3, h4, rfl⟩
    obtain ⟨ao, cap, rfl⟩ := own_form h3
    exact ⟨_, _, _, rfl⟩
theorem OwG.form (h : OwG e sz P w v L F) : ∃ ao cap, v = .slice ao L.length cap := by
  obtain ⟨U, Fs, _, h3, _⟩ := h
  exact own_form h3
theorem OwG.nil (e : TypeId) (sz : Nat) (P : World → (Nat → Value) → α → List Nat → Prop) (w : World) : OwG e sz P w (.slice none 0 0) [] [] := ⟨fun _ _ => .slice none 0 0, [], rfl, ⟨by rw [rowsK_len], .inl ⟨rfl, rfl⟩⟩, fun i hi => absurd hi (by simp), rfl⟩
theorem cellG {g cap n : Nat} {U : Nat → Nat → Value} {base : Nat} (h : w.ownsRow base e sz (.slice (some ⟨g, 0, none⟩) n cap) n (rowsK n sz U)) (i j : Nat) (hi : i < n) (hj : j < sz) : w.cell? ⟨g, i * sz + j, none⟩ = some (U i j) := by
  have hlt : i * sz + j < n * sz := Nat.lt_of_lt_of_le (Nat.add_lt_add_left hj _) (by rw [← Nat.succ_mul]; exact Nat.mul_le_mul_right _ hi)
  rw [h.cellAt _ hlt]
  exact rowsK_get n sz U i j hi hj
theorem OwG.rd {Q : World → (Nat → Value) → α → Prop} (hPQ : ∀ w c a F, P w c a F → Q w c a) (h : OwG e sz P w v L F) : RdG sz Q w v L := by
  obtain ⟨U, Fs, h2, h3, h4, rfl⟩ := h
  obtain ⟨ao, cap, rfl⟩ := own_form h3
  refine ⟨ao, cap, rfl, fun i hi => ?_⟩
  obtain ⟨g, rfl, _, _⟩ := own_at h3 (by omega)
  exact ⟨g, 0, U i, rfl, fun j hj => by rw [Nat.zero_add]; exact cellG h3 i j hi hj, hPQ _ _ _ _ (h4 i hi)⟩
/-- An element, and what becomes of the row when what the element reaches becomes another thing. -/
theorem OwG.turn (hP : OkG P) (h : OwG e sz P w v L F) (hF : F.Nodup) (i : Nat) (hi : i < L.length) : ∃ g cap c Fi, v = .slice (some ⟨g, 0, none⟩) L.length cap ∧ g ∈ F ∧ g ∉ Fi ∧ (∀ j, j < sz → w.cell? ⟨g, i * sz + j, none⟩ = some (c j)) ∧ (∀ j, w.frozen? ⟨g, j, none⟩ = false) ∧ P w c L[i] Fi ∧ Fi.Nodup ∧ (∀ x ∈ Fi, x ∈ F) ∧
    (∀ w' a' Fi', Wr Fi w w' → P w' c a' Fi' → Fi'.Nodup → (∀ x ∈ Fi', x ∈ Fi ∨ x ∉ F) → ∃ F', OwG e sz P w' v (L.set i a') F' ∧ F'.Nodup ∧ ∀ x ∈ F', x ∈ F ∨ x ∈ Fi') ∧
    (∀ w' (c' : Nat → Value) a' Fi', Wr (g :: Fi) w w' → (∀ U, w.ownsRow 0 e sz v L.length (rowsK L.length sz U) → w'.ownsRow 0 e sz v L.length (rowsK L.length sz (fun p q => if p = i then c' q else U p q))) → P w' c' a' Fi' → Fi'.Nodup → (∀ x ∈ Fi', x ∈ Fi ∨ x ∉ F) → ∃ F', OwG e sz P w' v (L.set i a') F' ∧ F'.Nodup ∧ ∀ x ∈ F', x ∈ F ∨ x ∈ Fi') := by
  obtain ⟨U, Fs, h2, h3, h4, rfl⟩ := h
  obtain ⟨ao, cap, rfl⟩ := own_form h3
  obtain ⟨g, rfl, _, _⟩ := own_at h3 (by omega)
  have hn := List.nodup_append.1 hF
  have hgb : g ∈ blk (Value.slice (some ⟨g, 0, none⟩) L.length cap) := mem_blk.2 rfl
  have hgi : ∀ j, j < L.length → g ∉ Fs.getD j [] := fun j hj hx => hn.2.2 g hgb g (flat_in (by omega) g hx) rfl
  have hil : i < Fs.length := by omega
  refine ⟨g, cap, U i, Fs.getD i [], rfl, by simp [hgb], hgi i hi, fun j hj => cellG h3 i j hi hj, fun j => h3.frozenAt j, h4 i hi, ?_, fun x hx => by simp [flat_in hil x hx], fun w' a' Fi' hw hp hn' hd => ?_, fun w' c' a' Fi' hw ho hp hn' hd => ?_⟩
  · exact (List.pairwise_flatten.1 hn.2.1).1 (Fs.getD i []) (by rw [List.getD_eq_getElem?_getD, List.getElem?_eq_getElem hil]; simp)
  · obtain ⟨p1, p2⟩ := parts_set hF hil hn' hd
    refine ⟨_, ⟨U, Fs.set i Fi', by simp [h2], ?_, fun j hj => ?_, rfl⟩, p1, p2⟩
    · rw [List.length_set]
      exact own_sameAt h3 (fun x hx => hw.block x (h3.lt x hx).2 (by have e9 : g = x := Option.some.inj hx; subst e9; exact hgi i hi))
    · rw [List.length_set] at hj
      by_cases e9 : i = j
      · subst e9
        have ef : (Fs.set i Fi').getD i [] = Fi' := by simp [hil]
        rw [ef]
        simp only [List.getElem_set_self]
        exact hp
      · have ef : (Fs.set i Fi').getD j [] = Fs.getD j [] := by simp [e9]
        rw [ef, List.getElem_set_ne e9]
        exact hP.wr (h4 j hj) hw (flat_apart hn.2.1 (by omega) (by omega) (fun e => e9 e.symm))
  · obtain ⟨p1, p2⟩ := parts_set hF hil hn' hd
    refine ⟨_, ⟨_, Fs.set i Fi', by simp [h2], by rw [List.length_set]; exact ho U h3, fun j hj => ?_, rfl⟩, p1, p2⟩
    rw [List.length_set] at hj
    by_cases e9 : i = j
    · subst e9
      have ef : (Fs.set i Fi').getD i [] = Fi' := by simp [hil]
      rw [ef]
      simp only [List.getElem_set_self, if_true]
      exact hp
    · have ef : (Fs.set i Fi').getD j [] = Fs.getD j [] := by simp [e9]
      rw [ef, List.getElem_set_ne e9]
      have ec : (fun q => if j = i then c' q else U j q) = U j := by funext q; rw [if_neg (fun e => e9 e.symm)]
      rw [ec]
      exact hP.wr (h4 j hj) hw (fun x hx hy => by
        rcases List.mem_cons.1 hy with rfl | hy
        · exact hgi j hj hx
        · exact flat_apart hn.2.1 (by omega) (by omega) (fun e => e9 e.symm) x hx hy)
/-- An element, and what becomes of the row when it is written anew in its own blocks. -/
theorem OwG.at (hP : OkG P) (h : OwG e sz P w v L F) (hF : F.Nodup) (i : Nat) (hi : i < L.length) : ∃ g cap c Fi, v = .slice (some ⟨g, 0, none⟩) L.length cap ∧ g ∈ F ∧ g ∉ Fi ∧ (∀ w1, Wr Fi w w1 → (∀ j, j < sz → w1.cell? ⟨g, i * sz + j, none⟩ = some (c j)) ∧ (∀ j, w1.frozen? ⟨g, j, none⟩ = false)) ∧ P w c L[i] Fi ∧ Fi.Nodup ∧ (∀ x ∈ Fi, x ∈ F) ∧
    ∀ w1 w' (c' : Nat → Value) a', Wr Fi w w1 → Wr [g] w1 w' → (∀ U, w1.ownsRow 0 e sz v L.length (rowsK L.length sz U) → (∀ j, j < sz → U i j = c j) → w'.ownsRow 0 e sz v L.length (rowsK L.length sz (fun p q => if p = i then c' q else U p q))) → P w' c' a' Fi → OwG e sz P w' v (L.set i a') F := by
  obtain ⟨U, Fs, h2, h3, h4, rfl⟩ := h
  obtain ⟨ao, cap, rfl⟩ := own_form h3
  obtain ⟨g, rfl, _, _⟩ := own_at h3 (by omega)
  have hn := List.nodup_append.1 hF
  have hgb : g ∈ blk (Value.slice (some ⟨g, 0, none⟩) L.length cap) := mem_blk.2 rfl
  have hgi : ∀ j, j < L.length → g ∉ Fs.getD j [] := fun j hj hx => hn.2.2 g hgb g (flat_in (by omega) g hx) rfl
  have hil : i < Fs.length := by omega
  have hown : ∀ w1, Wr (Fs.getD i []) w w1 → w1.ownsRow 0 e sz (.slice (some ⟨g, 0, none⟩) L.length cap) L.length (rowsK L.length sz U) := fun w1 hw => own_sameAt h3 (fun x hx => hw.block x (h3.lt x hx).2 (by have e9 : g = x := Option.some.inj hx; subst e9; exact hgi i hi))
  refine ⟨g, cap, U i, Fs.getD i [], rfl, by simp [hgb], hgi i hi, fun w1 hw => ⟨fun j hj => cellG (hown w1 hw) i j hi hj, fun j => (hown w1 hw).frozenAt j⟩, h4 i hi, ?_, fun x hx => by simp [flat_in hil x hx], fun w1 w' c' a' hw hw2 ho hp => ?_⟩
  · exact (List.pairwise_flatten.1 hn.2.1).1 (Fs.getD i []) (by rw [List.getD_eq_getElem?_getD, List.getElem?_eq_getElem hil]; simp)
  · refine ⟨_, Fs, by simp [h2], by rw [List.length_set]; exact ho U (hown w1 hw) (fun _ _ => rfl), fun j hj => ?_, rfl⟩
    rw [List.length_set] at hj
    by_cases e9 : i = j
    · subst e9
      simp only [List.getElem_set_self, if_true]
      exact hp
    · rw [List.getElem_set_ne e9]
      have ec : (fun q => if j = i then c' q else U j q) = U j := by funext q; rw [if_neg (fun e => e9 e.symm)]
      rw [ec]
      exact hP.wr (hP.wr (h4 j hj) hw (flat_apart hn.2.1 (by omega) (by omega) (fun e => e9 e.symm))) hw2 (fun x hx hy => by simp at hy; subst hy; exact hgi j hj hx)
/-- A new row, of structs that reach nothing. -/
theorem OwG.made {z : α} {zc : Nat → Value} (hz : ∀ w, P w zc z []) {base n : Nat} (h : w.ownsRow base e sz v n (rowsK n sz (fun _ j => zc j))) : OwG e sz P w v (List.replicate n z) (blk v) := by
  refine ⟨fun _ j => zc j, List.replicate n [], by simp, by rw [List.length_replicate]; exact own_base h (Nat.zero_le _), fun i hi => ?_, ?_⟩
  · rw [List.length_replicate] at hi
    have e2 : (List.replicate n ([] : List Nat)).getD i [] = [] := by simp [hi]
    rw [e2, List.getElem_replicate]
    exact hz w
  · have : (List.replicate n ([] : List Nat)).flatten = [] := by simp
    rw [this, List.append_nil]
end

end Go.Proofs.Ytibgldanmhckiaa
