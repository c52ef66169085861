/-
  Rows of bins, and what the program is asked to give.
-/
import Derived.Test.YtekidfkahpaokaaCoderDec
namespace Go.Proofs.Ytekidfkahpaokaa
open Go.RowKit

def ImplEnc : Prop := ∀ (ao : Option Addr) (n cap : Nat) (fs : List (Int × Int)) (w : World), RdF w ao n fs → n ≤ 1048576 →
  Calls Try.prog 14 #[.slice ao n cap] w fun e w' => ∃ bo cap', e = .returned (.slice bo (encG fs).length cap') ∧ w'.ownsRow w.heap.size 5 1 (.slice bo (encG fs).length cap') (encG fs).length ((encG fs).map (Value.int .u8)) ∧ w.grownBy w' none

theorem bits_len : ∀ (l : List (Nat × Nat)) (P : Nat → Nat) (s : En), (bitsE P s l).out.length ≤ s.out.length + l.length
  | [], _, _ => Nat.le_refl _
  | (c, b) :: r, P, s => by
    have h1 := bits_len r (fun x => if x = c then learnN (P c) b else P x) (putE s (P c) b)
    have h2 := put_len1 s (P c) b
    rw [bitsE, List.length_cons]
    omega
theorem like0_ok : okPs like0 := fun _ => ⟨by unfold like0; decide, by unfold like0; decide⟩
theorem enc_okE (fs : List (Int × Int)) : OkE (bitsE like0 en0 (binsN fs)) := bits_ok (binsN fs) like0 en0 like0_ok start_ok
theorem encN_len (fs : List (Int × Int)) : (encN fs).length ≤ fs.length + 4 := by
  have h1 := (end_ok (enc_okE fs)).2.1
  have h2 := bits_len (binsN fs) like0 en0
  have h3 : (binsN fs).length = fs.length := by simp [binsN]
  have h4 : en0.out.length = 0 := rfl
  unfold encN
  omega
theorem enc_len (fs : List (Int × Int)) : (encG fs).length ≤ fs.length + 4 := by
  unfold encG
  split
  · simp; exact encN_len fs
  · simp
theorem enc_byte (fs : List (Int × Int)) (i : Nat) : 0 ≤ (encG fs).getD i 0 ∧ (encG fs).getD i 0 ≤ 255 := by
  have h1 := (end_ok (enc_okE fs)).1
  by_cases hi : i < (encG fs).length
  · have hm : (encG fs).getD i 0 ∈ encG fs := by
      have e : (encG fs).getD i 0 = (encG fs)[i] := by simp [hi]
      rw [e]; exact List.getElem_mem hi
    generalize (encG fs).getD i 0 = x at hm
    unfold encG at hm
    split at hm
    · rw [List.mem_map] at hm
      obtain ⟨y, hy, rfl⟩ := hm
      have := h1 y (List.mem_reverse.1 hy)
      omega
    · simp at hm
  · rw [List.getD_eq_getElem?_getD, List.getElem?_eq_none (by omega)]; simp
theorem cheap_len (n c b : Nat) (hn : n ≤ 3000) (hb : b ≤ 1) : (encG (List.replicate n ((c : Int), (b : Int)))).length ≤ 24 + n / 64 := by
  have e : binsN (List.replicate n ((c : Int), (b : Int))) = List.replicate n (c, b) := by simp [binsN]
  have h1 := (end_ok (enc_okE (List.replicate n ((c : Int), (b : Int))))).2.1
  rw [e] at h1
  have h2 : 64 * (bitsE like0 en0 (List.replicate n (c, b))).out.length ≤ 64 * 20 + n := by
    rcases Nat.eq_zero_or_pos n with h | h
    · subst h; simp [bitsE, en0]
    · have h3 := same_len c b 3000 n like0 en0 (Nat.le_refl _) hn (by rcases (show b = 0 ∨ b = 1 by omega) with rfl | rfl
                                                                      · exact same0
                                                                      · exact same1) h
      omega
  unfold encG
  split
  · unfold encN
    rw [e]
    simp
    omega
  · simp

theorem info_bin : (Try.prog.info? 30).map (fun i => (i.zero, i.size, i.bytes)) = some (some (.agg #[.int .i64 0, .int .i64 0]), 2, 16) := by kernel_rfl

theorem append_bin {w : World} {ops : Array Oper} {rest : List Oper} {o : Oper} {a : Act} {Q : Exit → Act → World → Prop} (hgd : o.guard = none) (s x : Operand)
    (ho : o.op = .call { callee := .builtin .append, args := #[s, x], argTypes := #[27, 27] })
    (B : Nat) (v : Value) (X : List (Int × Int)) (hs : a.eval s = v) (hown : w.ownsRow B 30 2 v X.length (flat X)) (p q : Int) (sz : Nat) (hsz : w.heap.size = sz) (hx : a.eval x = .slice (some ⟨sz, 0, none⟩) 1 1)
    (hb : X.length ≤ 1000000) (hB : B ≤ w.heap.size) (R : List (Int × Int)) (hR : X ++ [(p, q)] = R)
    (h : ∀ v' w', w'.ownsRow B 30 2 v' R.length (flat R) → w.grownBy w' v.ownBlock → wpList Try.prog ops Q rest (a.put o.dst v') w') :
    wpList Try.prog ops Q (o :: rest) a (w.alloc (.cells #[.int .i64 p, .int .i64 q] 30)) := by
  subst hR
  subst hsz
  obtain ⟨i0, hi, hz0, hz1, hz2⟩ := info_parts info_bin
  refine wpList_append_own_at _ hgd s x 27 ho B 30 i0 _ 2 16 Try.underlying27 hi hz0 hz1 hz2 rfl (by decide) v X.length _ hs (hown.alloc _) ⟨w.heap.size, 0, none⟩ 1 1 [.int .i64 p, .int .i64 q] hx rfl (World.news_of_block (cs := #[.int .i64 p, .int .i64 q]) (t := 30) (fr := (0, 0)) (heap_alloc_new w _)) (by intro u hu; simp at hu; rcases hu with rfl | rfl <;> rfl) (by unfold maxLen; omega) (by omega) (by simp; omega) ?_
  intro v' w' h1 h2 _ _
  have hga : w.grownBy w' v.ownBlock := ⟨h2.os, h2.tape, h2.output, by have h := h2.size; simp at h; omega, fun k hk hr => (h2.block k (by simp; omega) hr).trans (Below.heap_alloc _ _ _ hk)⟩
  refine h v' w' ?_ hga
  rw [flat_append, List.length_append]
  exact h1

end Go.Proofs.Ytekidfkahpaokaa
