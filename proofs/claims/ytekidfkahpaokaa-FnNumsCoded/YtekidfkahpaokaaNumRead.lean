/-
  The program's reader of bits, and where it is.
-/
import Derived.Test.YtekidfkahpaokaaDecImpl2
import Derived.Test.YtekidfkahpaokaaNumsList
namespace Go.Proofs.Ytekidfkahpaokaa
open Go.RowKit

structure Cr (B : World) (rb : Nat) (w : World) (bs : Value) (m : Nat) (r : Rs) : Prop where
  ex : ∃ P : List Nat, Cd B rb w bs m P r.de ∧ P.length = 400 ∧ r.like = (fun y => P.getD y 2048)
  ok : okPs r.like
  okd : OkD r.de
theorem Cr.lt {B w : World} {rb m : Nat} {bs : Value} {r : Rs} (h : Cr B rb w bs m r) : rb < w.heap.size := by obtain ⟨P, h1, _, _⟩ := h.ex; exact h1.co.lt
theorem Cr.grown {B w : World} {rb m : Nat} {bs : Value} {r : Rs} (h : Cr B rb w bs m r) : B.grownBy w none := by obtain ⟨P, h1, _, _⟩ := h.ex; exact h1.grown
theorem Cr.base {B w : World} {rb m : Nat} {bs : Value} {r : Rs} (h : Cr B rb w bs m r) : B.heap.size ≤ rb := by obtain ⟨P, h1, _, _⟩ := h.ex; exact h1.base
theorem Cr.beside {B w w' : World} {rb m : Nat} {bs : Value} {r : Rs} {row : Option Nat} (h : Cr B rb w bs m r) (g : w.grownBy w' row) (hne : row ≠ some rb) (hb : ∀ k, row = some k → B.heap.size ≤ k) : Cr B rb w' bs m r := by
  obtain ⟨P, h1, h2, h3⟩ := h.ex
  exact ⟨⟨P, ⟨h1.co.kept g hne, h1.base, grown_new h1.grown g hb⟩, h2, h3⟩, h.ok, h.okd⟩
theorem Cr.new {B w w' : World} {rb m : Nat} {bs : Value} {r : Rs} (h : Cr B rb w bs m r) (g : w.grownBy w' none) : Cr B rb w' bs m r := h.beside g (by simp) (fun k e => by simp at e)

theorem implBitR {B w : World} {rb : Nat} {r : Rs} (ao : Option Addr) (m cap : Nat) (bz : List Int) (h : Cr B rb w (.slice ao m cap) m r) (hr : Rd .u8 B ao m bz) (hb : ∀ i, 0 ≤ bz.getD i 0 ∧ bz.getD i 0 ≤ 255) (c : Nat) (hc : c < 400) (hm : m ≤ 1048576) :
    Calls Try.prog 42 #[.pointer (some ⟨rb, 0, none⟩), .int .i64 c] w fun e w' => e = .returned (.int .i64 ((bitR r c : Nat) : Int)) ∧ Cr B rb w' (.slice ao m cap) m (nextR (byteS bz) r c) ∧ w.grownBy w' (some rb) := by
  obtain ⟨P, h1, h2, h3⟩ := h.ex
  have hlk : r.like c = P.getD c 2048 := by rw [h3]
  have hp : okP (P.getD c 2048) := by rw [← hlk]; exact h.ok c
  refine (implNext ao m cap bz h1 hr hb h.okd c hc hp hm).mono ?_
  rintro e w' ⟨rfl, hw, g⟩
  have q := bitD_ok (byteS_le hb) h.okd hp
  refine ⟨by unfold bitR; rw [hlk], ⟨⟨P.set c (learnN (P.getD c 2048) (bitD r.de (P.getD c 2048))), ?_, by rw [List.length_set]; exact h2, ?_⟩, ?_, ?_⟩, g⟩
  · unfold nextR
    dsimp only
    rw [hlk]
    exact hw
  · unfold nextR bitR
    dsimp only
    rw [like_set (by omega), hlk, h3]
  · exact okPs_learn h.ok c _
  · unfold nextR
    dsimp only
    rw [hlk]
    exact q.1

theorem implNewR (ao : Option Addr) (m cap : Nat) (bz : List Int) (w : World) (hr : Rd .u8 w ao m bz) (hb : ∀ i, 0 ≤ bz.getD i 0 ∧ bz.getD i 0 ≤ 255) (hm : m ≤ 1048576) :
    Calls Try.prog 41 #[.slice ao m cap] w fun e w' => ∃ rb, e = .returned (.pointer (some ⟨rb, 0, none⟩)) ∧ Cr w rb w' (.slice ao m cap) m (startR bz) := by
  refine (implNewDec ao m cap bz w hr hb hm).mono ?_
  rintro e w' ⟨rb, rfl, h⟩
  exact ⟨rb, rfl, ⟨List.replicate 400 2048, h, List.length_replicate, by funext y; rw [like_zero]; rfl⟩, like0_ok, startD_ok hb⟩

end Go.Proofs.Ytekidfkahpaokaa
