/-
  The bit coder of the program: bits that are written.
-/
import Derived.Test.YtekidfkahpaokaaCoImpl
import Derived.Test.YtekidfkahpaokaaCoderLay
import Derived.ScopeJumps
import Derived.WalkMore
namespace Go.Proofs.Ytekidfkahpaokaa
open Go.RowKit

structure Ce (B : World) (ob : Nat) (w : World) (u : Value) (P : List Nat) (s : En) : Prop where
  co : Co w ob 79 s.rang P [.int .i64 (s.low : Int), u]
  own : w.ownsRow B.heap.size 5 1 u s.out.length (bCells s.out)
  ne : u.ownBlock ≠ some ob
  base : B.heap.size ≤ ob
  grown : B.grownBy w none
theorem Ce.cells {B w : World} {ob : Nat} {u : Value} {P : List Nat} {s : En} (h : Ce B ob w u P s) : w.cell? ⟨ob, 0, none⟩ = some (.int .i64 (s.rang : Int)) ∧ w.cell? ⟨ob, 401, none⟩ = some (.int .i64 (s.low : Int)) ∧ w.cell? ⟨ob, 402, none⟩ = some u := ⟨h.co.c0, h.co.cT 0, h.co.cT 1⟩
theorem Ce.beside {B w w' : World} {ob : Nat} {u : Value} {P : List Nat} {s : En} {row : Option Nat} (h : Ce B ob w u P s) (g : w.grownBy w' row) (h1 : row ≠ some ob) (h2 : ∀ k, u.ownBlock = some k → row ≠ some k) (h3 : ∀ k, row = some k → B.heap.size ≤ k) : Ce B ob w' u P s :=
  ⟨h.co.kept g h1, own_beneath h.own g (fun a b e1 e2 e3 => h2 a e1 (by rw [e3]; exact e2)), h.ne, h.base, grown_new h.grown g h3⟩
theorem Ce.drewN {B w : World} {ob : Nat} {u : Value} {P : List Nat} {s : En} (h : Ce B ob w u P s) {w' : World} (g : w.grownBy w' none) : Ce B ob w' u P s := h.beside g (by simp) (fun _ _ => by simp) (fun k e => by simp at e)
/-- The coder inside is another one. -/
theorem Ce.turnC {B w w' : World} {ob : Nat} {u : Value} {P P' : List Nat} {s : En} {r : Nat} (h : Ce B ob w u P s) (g : w.grownBy w' (some ob)) (hc : Co w' ob 79 r P' [.int .i64 (s.low : Int), u]) : Ce B ob w' u P' ⟨s.low, r, s.out⟩ :=
  ⟨hc, own_beneath h.own g (fun a b e1 e2 e3 => h.ne (by rw [e2, ← e3]; exact e1)), h.ne, h.base, grown_new h.grown g (fun k e => by have := Option.some.inj e; have := h.base; omega)⟩
theorem Ce.setR {B w : World} {ob : Nat} {u : Value} {P : List Nat} {s : En} (h : Ce B ob w u P s) (x : Nat) : Ce B ob (w.setCell ⟨ob, 0, none⟩ (.int .i64 (x : Int))) u P ⟨s.low, x, s.out⟩ := h.turnC (grown_set _ _ _ _) (h.co.set0 x)
theorem Ce.setL {B w : World} {ob : Nat} {u : Value} {P : List Nat} {s : En} (h : Ce B ob w u P s) (x : Nat) : Ce B ob (w.setCell ⟨ob, 401, none⟩ (.int .i64 (x : Int))) u P ⟨x, s.rang, s.out⟩ := by
  have G := grown_set w ob 401 (.int .i64 (x : Int))
  exact ⟨h.co.setT 0 _, own_beneath h.own G (fun a b e1 e2 e3 => h.ne (by rw [e2, ← e3]; exact e1)), h.ne, h.base, grown_new h.grown G (fun k e => by have := Option.some.inj e; have := h.base; omega)⟩
/-- Bytes that were laid are others. -/
theorem Ce.turn {B w w' : World} {ob : Nat} {u : Value} {P : List Nat} {s : En} (h : Ce B ob w u P s) (O : List Nat) (ho : w'.ownsRow B.heap.size 5 1 u O.length (bCells O)) (g : w.grownBy w' u.ownBlock) : Ce B ob w' u P ⟨s.low, s.rang, O⟩ :=
  ⟨h.co.kept g h.ne, ho, h.ne, h.base, grown_new h.grown g (fun k e => (h.own.lt k e).1)⟩
/-- A byte more is laid. -/
theorem Ce.add {B w w' : World} {ob : Nat} {u : Value} {P : List Nat} {s : En} {g cap n1 x : Nat} (h : Ce B ob w u P s) (hn1 : n1 = s.out.length + 1) (o1 : w'.ownsRow B.heap.size 5 1 (.slice (some ⟨g, 0, none⟩) n1 cap) n1 (bCells (x :: s.out))) (g1 : w.grownBy w' u.ownBlock) (hat : u.ownBlock = some g ∨ w.heap.size ≤ g) :
    Ce B ob (w'.setCell ⟨ob, 402, none⟩ (.slice (some ⟨g, 0, none⟩) n1 cap)) (.slice (some ⟨g, 0, none⟩) n1 cap) P ⟨s.low, s.rang, x :: s.out⟩ := by
  subst hn1
  have hlt := h.co.lt
  have go' : g ≠ ob := by
    rcases hat with e | e
    · intro e2; rw [e2] at e; exact h.ne e
    · omega
  have G := grown_set w' ob 402 (.slice (some ⟨g, 0, none⟩) (s.out.length + 1) cap)
  refine ⟨(h.co.kept g1 h.ne).setT 1 _, ?_, fun e => go' (Option.some.inj e), h.base, grown_new (grown_new h.grown g1 (fun k e => (h.own.lt k e).1)) G (fun k e => by have := Option.some.inj e; have := h.base; omega)⟩
  exact own_beneath o1 G (fun a b e1 e2 e3 => go' (by have h1 : g = a := Option.some.inj e1; have h2 : ob = b := Option.some.inj e2; omega))

theorem room_split : ∀ l : List Nat, bytesN l → valR l + 1 < 256 ^ l.length → ∃ i x r, l = List.replicate i 255 ++ x :: r ∧ x < 255
  | [], _, h => by simp [valR] at h
  | x :: r, hb, h => by
    have hb2 : bytesN r := fun y hy => hb y (by simp [hy])
    have hx := hb x (by simp)
    by_cases e : x = 255
    · subst e
      rw [valR, List.length_cons, Nat.pow_succ] at h
      obtain ⟨i, x', r', h1, h2⟩ := room_split r hb2 (by omega)
      exact ⟨i + 1, x', r', by rw [h1, List.replicate_succ]; rfl, h2⟩
    · exact ⟨0, x, r, rfl, by omega⟩
theorem carry_split (i x : Nat) (r : List Nat) (hx : x < 255) : carryR (List.replicate i 255 ++ x :: r) = List.replicate i 0 ++ (x + 1) :: r := by
  rw [carry_run, carryR, if_neg (by omega)]

/-- A scope in which the run jumps back to one label, the way from it walked once. -/
theorem wp_scope_back {Pg : Program} {a : Act} {w : World} {Q : Exit → Act → World → Prop} {c rest : Code} (l : Nat) (J : Act → World → Prop) (μ : Act → World → Nat) (hf : findLabel c l = some (Code.skip.seq rest))
    (pass : ∀ a w, J a w → rest.wp Pg (Exit.jump l (fun a' w' => J a' w' ∧ μ a' w' < μ a w) Q) a w)
    (first : (∀ a w, J a w → rest.wp Pg (Exit.jump l J Q) a w) → c.wp Pg (Exit.jump l J Q) a w) : (Code.scope c).wp Pg Q a w :=
  wp_scope_jumps l J μ hf (first (fun a w hJ => Code.wp_mono (fun e a' w' h => by
    cases e with
    | goto l' => exact ⟨h.1, h.2.1⟩
    | normal => exact h
    | exit id => exact h
    | ret => exact h
    | panic ch => exact h
    | outgrown => exact h) (pass a w hJ))) (fun a w hJ => wp_seq (wp_skip (pass a w hJ)))

set_option maxRecDepth 20000 in
set_option maxHeartbeats 3200000 in
theorem implCarry {B w : World} {ob : Nat} {u : Value} {P : List Nat} {s : En} (h : Ce B ob w u P s) (i0 x : Nat) (r : List Nat) (hout : s.out = List.replicate i0 255 ++ x :: r) (hx : x < 255) (hlen : s.out.length ≤ 2000000) :
    Calls Try.prog 74 #[.pointer (some ⟨ob, 0, none⟩)] w fun e w' => e = .returned (.tuple #[]) ∧ Ce B ob w' u P ⟨s.low, s.rang, carryR s.out⟩ := by
  obtain ⟨low, rang, out⟩ := s
  dsimp only at hout hlen ⊢
  obtain ⟨n, HN⟩ : ∃ n, Hid (out.length = n) := ⟨_, rfl⟩
  have hn : n = i0 + 1 + r.length := by rw [← unhide HN, hout]; simp; omega
  obtain ⟨uo, uc, rfl⟩ := own_form h.own
  obtain ⟨g, rfl, _, _⟩ := own_at h.own (by dsimp only; rw [unhide HN]; omega)
  have HE : Hid (carryR out = List.replicate i0 0 ++ (x + 1) :: r) := by unfold Hid; rw [hout, carry_split i0 x r hx]
  rw [unhide HE]
  dsimp only at h
  have H0 : Hid (Ce B ob w (.slice (some ⟨g, 0, none⟩) n uc) P ⟨low, rang, List.replicate 0 0 ++ (List.replicate (i0 - 0) 255 ++ x :: r)⟩) := by
    rw [unhide HN, hout] at h
    exact h
  rw [unhide HN] at hlen ⊢
  have HX := hide hn
  clear h hout hn
  have c2 := (unhide H0).cells.2.2
  go_enter Try.func74, Try.ntmps74
  go_wp2
  refine wp_scope_back 0 (fun a' w' => ∃ (j : Nat) (kv u1 u3 u4 u5 u6 u7 u8 u9 u10 u11 u12 u13 u14 u15 u16 u17 u18 u19 u20 u21 u22 u23 u24 u25 u26 : Value), a' = { tmps := #[.pointer (some ⟨ob, 0, none⟩), u1, kv, u3, u4, u5, u6, u7, u8, u9, u10, u11, u12, u13, u14, u15, u16, u17, u18, u19, u20, u21, u22, u23, u24, u25, u26], defers := [] } ∧ kv = .int .i64 ((n : Int) - (j : Int)) ∧ j ≤ i0 ∧ Hid (Ce B ob w' (.slice (some ⟨g, 0, none⟩) n uc) P ⟨low, rang, List.replicate j 0 ++ (List.replicate (i0 - j) 255 ++ x :: r)⟩)) (fun a' _ => (intOf (a'.tmps.getD 2 undef)).toNat) rfl ?_ ?_
  · clear c2 H0
    rintro a' w' ⟨j, kv, u1, u3, u4, u5, u6, u7, u8, u9, u10, u11, u12, u13, u14, u15, u16, u17, u18, u19, u20, u21, u22, u23, u24, u25, u26, rfl, rfl, hj, hw⟩
    have hnn := unhide HX
    have c2 := (unhide hw).cells.2.2
    obtain ⟨k, hk⟩ : ∃ k, n = k + 1 + j := ⟨n - 1 - j, by omega⟩
    have e1 : (n : Int) - (j : Int) - 1 = (k : Int) := by omega
    have e2 := i64_in (k : Int) (by omega)
    have hkI : (k : Int) < (n : Int) := by omega
    have hown := (unhide hw).own
    dsimp only at hown
    by_cases hjl : j < i0
    · have hr2 : (List.replicate (i0 - j - 1) 255 ++ x :: r).length = k := by simp; omega
      have eL : List.replicate (i0 - j) 255 ++ x :: r = 255 :: (List.replicate (i0 - j - 1) 255 ++ x :: r) := by
        rw [show i0 - j = (i0 - j - 1) + 1 by omega, List.replicate_succ]; rfl
      have hll : (List.replicate j 0 ++ 255 :: (List.replicate (i0 - j - 1) 255 ++ x :: r)).length = n := by simp; omega
      rw [eL] at hown hw
      rw [hll] at hown
      have hcx : w'.cell? ⟨g, k, none⟩ = some (.int .u8 255) := by rw [hown.cellAt k (by omega), ← hr2]; exact bCells_at _ _ _
      have hfx := hown.frozenAt k
      have s1 := hown.stored k (.int .u8 ((0 : Nat) : Int))
      rw [← hr2, bCells_set, hr2] at s1
      have hll2 : (List.replicate j 0 ++ 0 :: (List.replicate (i0 - j - 1) 255 ++ x :: r)).length = n := by simp; omega
      have HN2 : Hid (Ce B ob (w'.setCell ⟨g, k, none⟩ (.int .u8 0)) (.slice (some ⟨g, 0, none⟩) n uc) P ⟨low, rang, List.replicate (j + 1) 0 ++ (List.replicate (i0 - (j + 1)) 255 ++ x :: r)⟩) := by
        have e3 : List.replicate (j + 1) 0 ++ (List.replicate (i0 - (j + 1)) 255 ++ x :: r) = List.replicate j 0 ++ 0 :: (List.replicate (i0 - j - 1) 255 ++ x :: r) := by
          rw [List.replicate_succ', List.append_assoc, show i0 - (j + 1) = i0 - j - 1 by omega]; rfl
        unfold Hid
        rw [e3]
        exact (unhide hw).turn _ (by rw [hll2]; exact s1.1) s1.2
      have k2 := (unhide HN2).cells.2.2
      have hcy : (w'.setCell ⟨g, k, none⟩ (.int .u8 0)).cell? ⟨g, k, none⟩ = some (.int .u8 0) := by
        have h7 := s1.1.cellAt k (by omega)
        refine h7.trans ?_
        rw [← hr2]; exact bCells_at _ _ _
      have hjn : j + 1 ≤ i0 := hjl
      have hm1 : k < k + 1 := by omega
      have e5 : (k : Int) = (n : Int) - ((j + 1 : Nat) : Int) := by omega
      have HE5 := hide e5
      have HHK := hide hk
      clear hown hw s1 hll hll2 eL hr2 hk hnn e5 HX
      go_wp2
      go_step3
      refine ⟨rfl, ⟨j + 1, _, _, _, _, _, _, _, _, _, _, _, _, _, _, _, _, _, _, _, _, _, _, _, _, _, _, rfl, by rw [← unhide HE5], hjn, HN2⟩, ?_⟩
      simp [intOf]
      have := unhide HHK
      omega
    · obtain rfl : j = i0 := by omega
      have hr2 : r.length = k := by omega
      have eL : List.replicate (j - j) 255 ++ x :: r = x :: r := by rw [Nat.sub_self]; rfl
      have hll : (List.replicate j 0 ++ x :: r).length = n := by simp; omega
      rw [eL] at hown hw
      rw [hll] at hown
      have hcx : w'.cell? ⟨g, k, none⟩ = some (.int .u8 (x : Int)) := by rw [hown.cellAt k (by omega), ← hr2]; exact bCells_at _ _ _
      have hfx := hown.frozenAt k
      have s1 := hown.stored k (.int .u8 ((x + 1 : Nat) : Int))
      rw [← hr2, bCells_set, hr2] at s1
      have hll2 : (List.replicate j 0 ++ (x + 1) :: r).length = n := by simp; omega
      have HN2 : Hid (Ce B ob (w'.setCell ⟨g, k, none⟩ (.int .u8 ((x + 1 : Nat) : Int))) (.slice (some ⟨g, 0, none⟩) n uc) P ⟨low, rang, List.replicate j 0 ++ (x + 1) :: r⟩) := (unhide hw).turn _ (by rw [hll2]; exact s1.1) s1.2
      have k2 := (unhide HN2).cells.2.2
      have hcy : (w'.setCell ⟨g, k, none⟩ (.int .u8 ((x + 1 : Nat) : Int))).cell? ⟨g, k, none⟩ = some (.int .u8 ((x + 1 : Nat) : Int)) := by
        have h7 := s1.1.cellAt k (by omega)
        refine h7.trans ?_
        rw [← hr2]; exact bCells_at _ _ _
      obtain ⟨y, HY⟩ : ∃ y, Hid (x + 1 = y) := ⟨_, rfl⟩
      have e6 : IntKind.u8.wrap ((x : Int) + 1) = (y : Int) := by rw [IntWalk.u8_in _ (by omega)]; have := unhide HY; omega
      have hy0 : ((y : Int) == 0) = false := by have := unhide HY; simp; omega
      rw [unhide HY] at HN2 k2 hcy
      clear hown hw s1 hll hll2 eL hr2 hk hnn HX
      go_wp2
      simp only [Exit.jump]
      exact bodyPost_end (v := .tuple #[]) (by simp [results, Try.results74, go_sem]) rfl ⟨rfl, by rw [unhide HY]; exact unhide HN2⟩
  · intro HP
    have HPP := hide HP
    clear HP
    go_wp2
    go_step3
    rename_i hK
    refine hK _ _ (unhide HPP _ _ ?_)
    have e0 : Value.int .i64 (n : Int) = .int .i64 ((n : Int) - ((0 : Nat) : Int)) := by congr 1
    exact ⟨0, _, _, _, _, _, _, _, _, _, _, _, _, _, _, _, _, _, _, _, _, _, _, _, _, _, _, rfl, e0, Nat.zero_le _, H0⟩

end Go.Proofs.Ytekidfkahpaokaa
