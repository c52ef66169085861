/-
  The spots of an area for loops that make what is new.
-/
import Derived.Test.YtkefpjbdkhifhaaSpotNum
import Derived.Test.YtkefpjbdkhifhaaRangeNew
namespace Go.Proofs.Ytkefpjbdkhifhaa
open Go.RowKit Go.Shelf

/-- The spots of an area, given to a loop whose body always goes on. -/
theorem spots_news (Bn wd ht : Nat) (hwd : wd ≤ 4096) (hht : ht ≤ 4096) (O : Nat → Prop) (w : World) (hBn : w.heap[Bn]? = some (.cells #[.int .i64 (wd : Int), .int .i64 (ht : Int)] 48 (0, 0))) (hOB : ¬ O Bn) :
    News Try.prog 82 #[.pointer (some ⟨Bn, 0, none⟩)] (fun x : Nat × Nat => #[.int .i64 (x.1 : Int), .int .i64 (x.2 : Int)]) (sTo wd ht) O w := by
  intro n l J W hW _ hl hOl hwl hY h0
  have hlt : Bn < w.heap.size := (Array.getElem?_eq_some_iff.1 hBn).1
  have hBW : W.heap[Bn]? = some (.cells #[.int .i64 (wd : Int), .int .i64 (ht : Int)] 48 (0, 0)) := (hW.block Bn hlt hOB).trans hBn
  have hltW : Bn < W.heap.size := (Array.getElem?_eq_some_iff.1 hBW).1
  have hn1 : ∀ m, CallsIn Fence.wide m Try.prog 82 (#[.func (.yield l) #[] #[]] ++ #[.pointer (some ⟨Bn, 0, none⟩)]) W (fun e W' => (∃ v, e = .returned v) ∧ J (sTo wd ht) W' ∧ But (fun k => O k ∨ k = l) W W') → CallsIn Fence.wide n Try.prog 82 (#[.func (.yield l) #[] #[]] ++ #[.pointer (some ⟨Bn, 0, none⟩)]) W (fun e W' => (∃ v, e = .returned v) ∧ J (sTo wd ht) W' ∧ But (fun k => O k ∨ k = l) W W') := fun m h => callsIn_wide.2 (callsIn_wide.1 h)
  refine hn1 1 ?_
  refine (spots1_in Fence.wide 1 trivial rfl (Nat.le_refl _) l Bn wd ht hwd hht (fun pre W1 => J pre W1 ∧ But (fun k => O k ∨ k = l) W W1) (fun _ _ => False) ?_ W hBW ⟨h0, But.refl _ _⟩).mono ?_
  · rintro pre x W1 ⟨hj, hb⟩ hlen
    obtain ⟨fn, tmps, assign, body, hy, hR⟩ := hY pre x W1 (1 - 1) hj hb hlen
    refine ⟨fn, tmps, assign, body, hy, hR.mono ?_⟩
    rintro e W' ⟨rfl, hj', hb'⟩
    exact .inl ⟨rfl, ⟨hj', hb.trans hb'⟩, hb'.block Bn (Nat.lt_of_lt_of_le hltW hb.size) (fun e => by rcases e with e | e; exact hOB e; omega)⟩
  · rintro e W' ⟨hv, (⟨ys, rfl, hj, hb⟩ | ⟨pre, _, hf⟩)⟩
    · exact ⟨hv, hj, hb⟩
    · exact hf.elim

end Go.Proofs.Ytkefpjbdkhifhaa
