/-
  Things are added to the heap, in the program.
-/
import Derived.Test.YtcbaiagkdphkeaaHeapFns
namespace Go.Proofs.Ytcbaiagkdphkeaa
open Go.RowKit

theorem Hx.came {B : Bs} {w : World} {hb : Nat} {v : Value} {L : List Hp} {c : Int} (h : Hx B hb w v L c) (d : Int) : Hx B hb (w.setCell ⟨hb, 1, none⟩ (.int .i64 d)) v L d := by
  have G2 := grown_set w hb 1 (.int .i64 d)
  refine ⟨?_, ?_, h.ne, ?_, ?_, h.base, fun k o e => ?_⟩
  · exact own_beneath h.own G2 (fun k k' h1 h2 => by
      have e2 : hb = k' := Option.some.inj h2
      intro e; exact h.ne (by rw [e2, ← e]; exact h1))
  · exact heap_setCell_same w hb 1 _ _ _ h.box
  · exact ⟨fun x hx => rd_besideP (h.syms.rd x hx) G2 (fun b off e => by intro e2; exact (h.syms.away x hx b off e).2 (Option.some.inj e2).symm), h.syms.away, h.syms.pos⟩
  · exact grown_new h.grown G2 (fun k e => by have := Option.some.inj e; have := h.base; omega)
  · obtain ⟨h1, h2, h3⟩ := h.frame k o e
    exact ⟨(G2.block k (Array.getElem?_eq_some_iff.1 h1).1 (fun e2 => h3 (Option.some.inj e2))).trans h1, h2, h3⟩

/-- Things that are read from elsewhere. -/
structure Src (w : World) (v : Value) (hb : Nat) (ao : Option Addr) (n : Nat) (A : List Hp) : Prop where
  rd : RdP w ao n A
  syms : Syms w v.ownBlock hb A
  blk : 0 < n → ∀ b off, ao = some ⟨b, off, none⟩ → v.ownBlock ≠ some b ∧ b ≠ hb
theorem cell_block {w w' : World} {b off : Nat} {x : Value} (h : w'.heap[b]? = w.heap[b]?) (hc : w.cell? ⟨b, off, none⟩ = some x) : w'.cell? ⟨b, off, none⟩ = some x := by
  rw [World.cell?_of_block (a := ⟨b, off, none⟩) h]; exact hc
theorem cell_lt {w : World} {b off : Nat} {x : Value} (hc : w.cell? ⟨b, off, none⟩ = some x) : b < w.heap.size := by
  rcases Nat.lt_or_ge b w.heap.size with h | h
  · exact h
  · simp [World.cell?, Array.getElem?_eq_none h] at hc
theorem Syms.kept {W w w' : World} {hb : Nat} {v v' : Value} {L A : List Hp} {c : Int} (h : Hx ⟨W, frAll w v hb⟩ hb w' v' L c) (s : Syms w v.ownBlock hb A) : Syms w' v'.ownBlock hb A := by
  refine ⟨fun x hx => ?_, fun x hx b off e => ?_, s.pos⟩
  · have hr := s.rd x hx
    refine ⟨hr.1, fun i hi => ?_⟩
    obtain ⟨b, off, e, hc⟩ := hr.2 i hi
    obtain ⟨h1, h2⟩ := s.away x hx b off e
    exact ⟨b, off, e, cell_block (h.kept (cell_lt hc) h1 h2).1 hc⟩
  · obtain ⟨h1, h2⟩ := s.away x hx b off e
    exact ⟨(h.kept ((s.rd x hx).lt (s.pos x hx) b off e) h1 h2).2, h2⟩
theorem Src.kept {W w w' : World} {hb : Nat} {v v' : Value} {L A : List Hp} {c : Int} {ao : Option Addr} {n : Nat} (h : Hx ⟨W, frAll w v hb⟩ hb w' v' L c) (s : Src w v hb ao n A) : Src w' v' hb ao n A := by
  refine ⟨⟨s.rd.1, fun i hi => ?_⟩, s.syms.kept h, fun hn b off e => ?_⟩
  · obtain ⟨b, off, e, c0, c1, c2⟩ := s.rd.2 i hi
    obtain ⟨h1, h2⟩ := s.blk (by omega) b off e
    have hk := (h.kept (cell_lt c0) h1 h2).1
    exact ⟨b, off, e, cell_block hk c0, cell_block hk c1, cell_block hk c2⟩
  · obtain ⟨b', off', e', c0, _⟩ := s.rd.2 0 hn
    rw [e] at e'
    simp only [Option.some.injEq, Addr.mk.injEq, and_true] at e'
    obtain ⟨rfl, rfl⟩ := e'
    obtain ⟨h1, h2⟩ := s.blk hn b off e
    exact ⟨(h.kept (cell_lt c0) h1 h2).2, h2⟩
theorem Src.more {w w' : World} {hb : Nat} {v : Value} {A : List Hp} {ao : Option Addr} {n : Nat} (s : Src w v hb ao n A) (g : w.grownBy w' none) : Src w' v hb ao n A :=
  ⟨s.rd.grown g, ⟨fun x hx => (s.syms.rd x hx).grown g, s.syms.away, s.syms.pos⟩, s.blk⟩
theorem Src.box {w : World} {hb : Nat} {v : Value} {A : List Hp} {ao : Option Addr} {n : Nat} (s : Src w v hb ao n A) (j : Nat) (u : Value) : Src (w.setCell ⟨hb, j, none⟩ u) v hb ao n A := by
  have G2 := grown_set w hb j u
  refine ⟨⟨s.rd.1, fun i hi => ?_⟩, ⟨fun x hx => rd_besideP (s.syms.rd x hx) G2 (fun b off e => by intro e2; exact (s.syms.away x hx b off e).2 (Option.some.inj e2).symm), s.syms.away, s.syms.pos⟩, s.blk⟩
  obtain ⟨b, off, e, c0, c1, c2⟩ := s.rd.2 i hi
  have hne : some b ≠ some hb := fun e2 => (s.blk (by omega) b off e).2 (Option.some.inj e2)
  exact ⟨b, off, e, G2.cell c0 hne, G2.cell c1 hne, G2.cell c2 hne⟩

def numH : Int → List Hp → List Hp
  | _, [] => []
  | c, h :: hs => { h with c := c } :: numH (c + 1) hs
theorem numH_len : ∀ (c : Int) (A : List Hp), (numH c A).length = A.length
  | _, [] => rfl
  | c, h :: hs => by simp [numH, numH_len (c + 1) hs]
theorem numH_app : ∀ (c : Int) (A : List Hp) (x : Hp), numH c (A ++ [x]) = numH c A ++ [{ x with c := c + (A.length : Int) }]
  | c, [], x => by simp [numH]
  | c, h :: hs, x => by
    have e : c + 1 + (hs.length : Int) = c + ((h :: hs).length : Int) := by simp; omega
    rw [List.cons_append, numH, numH_app (c + 1) hs x, e]
    rfl
theorem numH_take {A : List Hp} {k : Nat} (c : Int) (hk : k < A.length) : numH c (A.take (k + 1)) = numH c (A.take k) ++ [{ at_ A k with c := c + (k : Int) }] := by
  have e : at_ A k = A[k] := by simp [at_, hk]
  have hl : (A.take k).length = k := by simp; omega
  rw [List.take_succ_eq_append_getElem hk, numH_app, hl, e]

set_option maxRecDepth 20000 in
set_option maxHeartbeats 1600000 in
theorem implAdd {B : Bs} {w : World} {hb : Nat} {L A : List Hp} {c : Int} {v : Value} {ao : Option Addr} {n cap : Nat} (H : Hx B hb w v L c) (hN : HeapN L L.length) (S : Src w v hb ao n A) (hn : L.length + n ≤ 900) (hc : 0 ≤ c ∧ c ≤ 100000) :
    Calls Try.prog 56 #[.pointer (some ⟨hb, 0, none⟩), .slice ao n cap] w fun e w' => e = .returned (.tuple #[]) ∧ ∃ v' L', Hx B hb w' v' L' (c + (n : Int)) ∧ HeapN L' L'.length ∧ L'.Perm (L ++ numH c A) := by
  have hAl := S.rd.1
  have HX := hide H
  have HN := hide hN
  have HS := hide S
  have HAL := hide hAl
  have HP0 : Hid (L.Perm (L ++ numH c (A.take 0))) := by unfold Hid; rw [List.take_zero, numH, List.append_nil]
  clear H hN S hAl
  go_enter Try.func56, Try.ntmps56
  go_wp2
  go_loopw [8] (fun kv wr => ∃ (k : Nat) (u : Value) (M : List Hp), k ≤ n ∧ kv = .int .i64 k ∧ Hid (Hx B hb wr u M (c + (k : Int))) ∧ Hid (HeapN M M.length) ∧ Hid (Src wr u hb ao n A) ∧ Hid (M.Perm (L ++ numH c (A.take k)))) (fun kv _ => n - (intOf kv).toNat)
  case atStart => exact ⟨0, v, L, Nat.zero_le _, rfl, by rw [show c + ((0 : Nat) : Int) = c by omega]; exact HX, HN, HS, HP0⟩
  case round =>
    clear HX HN HS HP0
    obtain ⟨k, u, M, hk, rfl, hx, hhn, hsrc, hperm⟩ := hrel
    by_cases hlt : k < n
    · have hML : M.length = L.length + k := by
        have h1 := (unhide hperm).length_eq
        rw [List.length_append, numH_len, List.length_take, unhide HAL] at h1
        omega
      have HML : Hid (M.length < 1000) := by unfold Hid; omega
      clear hML
      have hkI : (k : Int) < (n : Int) := by omega
      obtain ⟨bb, off, rfl, c0, c1, c2⟩ := (unhide hsrc).rd.2 k hlt
      obtain ⟨d0, d1, f0, f1⟩ := (unhide hx).cell
      have hmem : at_ A k ∈ A := by
        have e : at_ A k = A[k]'(by rw [unhide HAL]; exact hlt) := by simp [at_, show k < A.length by rw [unhide HAL]; exact hlt]
        rw [e]; exact List.getElem_mem _
      have hrx := (unhide hsrc).syms.rd _ hmem
      have hpx := (unhide hsrc).syms.pos _ hmem
      have hax := (unhide hsrc).syms.away _ hmem
      have hnum := numH_take (A := A) (k := k) c (by rw [unhide HAL]; exact hlt)
      generalize at_ A k = x at *
      obtain ⟨xw, xo, xc, xs, xk⟩ := x
      dsimp only at c0 c1 c2 hrx hpx hax hnum
      obtain ⟨m, HM⟩ : ∃ m, Hid (xs.length = m) := ⟨_, rfl⟩
      rw [unhide HM] at c1
      have hs := (unhide hx).lt
      have e1 := i64_in (c + (k : Int) + 1) (by omega)
      obtain ⟨w2, hw2⟩ : ∃ w2, (wr.setCell ⟨hb, 1, none⟩ (.int .i64 (c + (k : Int) + 1))).alloc (.cells #[.int .i64 xw, .slice xo m xc, .int .i64 (c + (k : Int))] 54) = w2 := ⟨_, rfl⟩
      have g2 : (wr.setCell ⟨hb, 1, none⟩ (.int .i64 (c + (k : Int) + 1))).grownBy w2 none := by rw [← hw2]; exact World.grownBy_alloc _ _ _
      have HX2 : Hx B hb w2 u M (c + (k : Int) + 1) := ((unhide hx).came _).more g2
      have S2 : Src w2 u hb (some ⟨bb, off, none⟩) n A := ((unhide hsrc).box 1 _).more g2
      have hrx2 : Rd .i64 w2 xo xs.length xs := (rd_besideP (h := ⟨xw, xo, xc, xs, xk⟩) hrx (grown_set wr hb 1 _) (fun b off e => by intro e2; exact (hax b off e).2 (Option.some.inj e2).symm)).grown g2
      have HPUSH := hide (implHeapPush HX2.all (unhide hhn) (unhide HML) ⟨xw, xo, xc, xs, c + (k : Int)⟩ m HM hrx2 hpx hax)
      have HB2 : Hid (∀ w' v' L', Hx ⟨B.W, frAll w2 u hb⟩ hb w' v' L' (c + (k : Int) + 1) → Hx B hb w' v' L' (c + (((k + 1 : Nat)) : Int)) ∧ Src w' v' hb (some ⟨bb, off, none⟩) n A) := fun w' v' L' h => by
        refine ⟨?_, S2.kept h⟩
        rw [show c + (((k + 1 : Nat)) : Int) = c + (k : Int) + 1 by omega]
        exact HX2.frBack h
      have HPM : Hid (∀ L' : List Hp, L'.Perm (M ++ [⟨xw, xo, xc, xs, c + (k : Int)⟩]) → L'.Perm (L ++ numH c (A.take (k + 1)))) := fun L' h => by
        rw [hnum, ← List.append_assoc]
        exact h.trans ((unhide hperm).append_right _)
      have HW2 := hide hw2
      have HNE : Hid (wr.heap.size ≠ hb) := by unfold Hid; omega
      clear hw2 g2 HX2 S2 hrx2 hrx hpx hax hnum hx hhn hsrc hperm hmem
      go_wp2_with fail
      rw [unhide HW2]
      refine (unhide HPUSH).mono ?_
      rintro e w3 ⟨rfl, v3, M3, hx3, hp3, hn3⟩
      obtain ⟨hx4, s4⟩ := unhide HB2 _ _ _ hx3
      have HX4 := hide hx4
      have HS4 := hide s4
      have HN4 := hide hn3
      have HP4 := hide (unhide HPM _ hp3)
      clear hx3 hp3 hn3 hx4 s4 HPUSH HB2 HPM HW2
      go_wp2
      go_roundw
      case rel => exact ⟨k + 1, v3, M3, by omega, by go_num, HX4, HN4, HS4, HP4⟩
      case measure => simp [intOf]; omega
    · obtain rfl : k = n := by omega
      have HPF : Hid (M.Perm (L ++ numH c A)) := by have h := unhide hperm; rw [← unhide HAL, List.take_length] at h; exact h
      clear hperm
      go_wp2
      exact bodyPost_end (v := .tuple #[]) (by simp [results, Try.results56, go_sem]) rfl ⟨rfl, u, M, unhide hx, unhide hhn, unhide HPF⟩

end Go.Proofs.Ytcbaiagkdphkeaa
