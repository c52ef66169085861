/-
  EncodeBins in the specification.
-/
import Derived.Test.YtekidfkahpaokaaCoderPut
import Derived.Test.YtekidfkahpaokaaFieldRows
import Derived.Test.YtekidfkahpaokaaBetween
namespace Go.Proofs.Ytekidfkahpaokaa
open Go.RowKit

def binB (x : Int × Int) : Bool := decide (0 ≤ x.1 ∧ x.1 ≤ 399) && decide (0 ≤ x.2 ∧ x.2 ≤ 1)
def binsB (fs : List (Int × Int)) : Bool := decide (fs.length ≤ 200000) && fs.all binB
def binsN (fs : List (Int × Int)) : List (Nat × Nat) := fs.map fun x => (x.1.toNat, x.2.toNat)
def like0 (_ : Nat) : Nat := 2048
def en0 : En := ⟨0, 4294967295, []⟩
def encN (fs : List (Int × Int)) : List Nat := (endE (bitsE like0 en0 (binsN fs))).out
def encG (fs : List (Int × Int)) : List Int := if binsB fs then (encN fs).reverse.map (fun x : Nat => (x : Int)) else []
theorem bCells_ints (O : List Nat) : bCells O = (O.reverse.map (fun x : Nat => (x : Int))).map (Value.int .u8) := by simp [bCells]

theorem append_pn {w : World} {ops : Array Oper} {rest : List Oper} {o : Oper} {a : Act} {Q : Exit → Act → World → Prop} (hgd : o.guard = none) (s x : Operand)
    (ho : o.op = .call { callee := .builtin .append, args := #[s, x], argTypes := #[24, 24] })
    (base : Nat) (v : Value) (L : List Nat) (hs : a.eval s = v) (hown : w.ownsRow base 3 1 v L.length (pCells L)) (t : Nat) (tI : Int) (htI : (t : Int) = tI) (hx : a.eval x = .slice (some ⟨w.heap.size, 0, none⟩) 1 1) (hb : L.length ≤ 2000000) (hbase : base ≤ w.heap.size)
    (hK : ∀ g cap w', w'.ownsRow base 3 1 (.slice (some ⟨g, 0, none⟩) (L.length + 1) cap) (L.length + 1) (pCells (L ++ [t])) → w.grownBy w' v.ownBlock → (v.ownBlock = some g ∨ w.heap.size ≤ g) → wpList Try.prog ops Q rest (a.put o.dst (.slice (some ⟨g, 0, none⟩) (L.length + 1) cap)) w') :
    wpList Try.prog ops Q (o :: rest) a (w.alloc (.cells #[.int .i64 tI] 3)) := by
  subst htI
  obtain ⟨i0, hi, hz0, hz1, hz2⟩ := info_parts info_n9
  refine wpList_append_own_at _ hgd s x 24 ho base 3 i0 _ 1 8 Try.underlying24 hi hz0 hz1 hz2 rfl (by decide) v L.length _ hs (hown.alloc _) ⟨w.heap.size, 0, none⟩ 1 1 [.int .i64 (t : Int)] hx rfl (World.news_of_block (cs := #[.int .i64 (t : Int)]) (t := 3) (fr := (0, 0)) (heap_alloc_new w _)) (by intro u hu; simp at hu; subst hu; rfl) (by unfold maxLen; omega) (by omega) (by simp; omega) ?_
  intro v' w' h1 h2 _ h4
  rcases h1.2 with ⟨_, e0⟩ | ⟨g, cap, cur, e1, _⟩
  · omega
  subst e1
  refine hK g cap w' ?_ ?_ ?_
  · have e : pCells (L ++ [t]) = pCells L ++ [.int .i64 (t : Int)] := by simp [pCells]
    rw [e]; exact h1
  · exact ⟨h2.os, h2.tape, h2.output, by have h := h2.size; simp at h; omega, fun k hk hr => (h2.block k (by simp; omega) hr).trans (Below.heap_alloc _ _ _ hk)⟩
  · rcases h4 with h4 | h4
    · exact .inl h4.symm
    · have e : g = (w.alloc (.cells #[.int .i64 (t : Int)] 3)).heap.size := Option.some.inj h4
      exact .inr (by simp at e; omega)

theorem Lk.push {B w w' : World} {xb : Nat} {v : Value} {P : List Nat} {g cap n1 x : Nat} (h : Lk B xb w v P) (hn1 : n1 = P.length + 1) (o1 : w'.ownsRow B.heap.size 3 1 (.slice (some ⟨g, 0, none⟩) n1 cap) n1 (pCells (P ++ [x]))) (g1 : w.grownBy w' v.ownBlock) (hat : v.ownBlock = some g ∨ w.heap.size ≤ g) :
    Lk B xb (w'.setCell ⟨xb, 0, none⟩ (.slice (some ⟨g, 0, none⟩) n1 cap)) (.slice (some ⟨g, 0, none⟩) n1 cap) (P ++ [x]) := by
  subst hn1
  have hlt := h.lt
  have gx : g ≠ xb := by
    rcases hat with e | e
    · intro e2; rw [e2] at e; exact h.ne e
    · omega
  have G := grown_set w' xb 0 (.slice (some ⟨g, 0, none⟩) (P.length + 1) cap)
  have e : (P ++ [x]).length = P.length + 1 := by simp
  refine ⟨?_, heap_setCell_same w' xb 0 _ _ _ (grown_atC g1 h.box h.ne), fun e => gx (Option.some.inj e), grown_new (grown_new h.grown g1 (fun k e => (h.own.lt k e).1)) G (fun k e => by have := Option.some.inj e; have := h.base; omega), h.base⟩
  rw [e]
  exact own_beneath o1 G (fun a b e1 e2 e3 => gx (by have h1 : g = a := Option.some.inj e1; have h2 : xb = b := Option.some.inj e2; omega))

set_option maxRecDepth 20000 in
set_option maxHeartbeats 1600000 in
theorem specNew (w : World) : Calls Try.prog 70 #[] w fun e w' => ∃ v, e = .returned (.pointer (some ⟨w.heap.size, 0, none⟩)) ∧ Lk w w.heap.size w' v (List.replicate 400 2048) := by
  have H0 : Hid (Lk w w.heap.size (w.alloc (.cells #[.slice none 0 0] 88)) (.slice none 0 0) (List.replicate 0 2048)) := ⟨⟨rfl, .inl ⟨rfl, rfl⟩⟩, heap_alloc_new w _, fun h => by simp [Value.ownBlock] at h, World.grownBy_alloc _ _ _, Nat.le_refl _⟩
  go_enter Try.func70, Try.ntmps70
  go_wp2
  go_loopw [2] (fun iv wr => ∃ (i : Nat) (v : Value), i ≤ 400 ∧ iv = .int .i64 i ∧ Hid (Lk w w.heap.size wr v (List.replicate i 2048))) (fun iv _ => 400 - (intOf iv).toNat)
  case atStart => exact ⟨0, _, Nat.zero_le _, rfl, H0⟩
  case round =>
    clear H0
    obtain ⟨i, v, hi, rfl, hk⟩ := hrel
    obtain ⟨po, pc, rfl⟩ := own_form (unhide hk).own
    have c0 : wr.cell? ⟨w.heap.size, 0, none⟩ = some (.slice po (List.replicate i 2048).length pc) := by rw [cell_of_row wr _ 0 _ _ (0, 0) (unhide hk).box]; rfl
    obtain ⟨L, HL⟩ : ∃ L : List Nat, Hid (List.replicate i 2048 = L) := ⟨_, Eq.refl _⟩
    have HLL : Hid (L.length = i) := by unfold Hid; rw [← unhide HL]; simp
    rw [unhide HL] at hk c0
    by_cases hlt : i < 400
    · have hd : decide ((i : Int) < 400) = true := decide_eq_true (by omega)
      have HPU : Hid (∀ g cap w', w'.ownsRow w.heap.size 3 1 (.slice (some ⟨g, 0, none⟩) (L.length + 1) cap) (L.length + 1) (pCells (L ++ [2048])) → wr.grownBy w' (Value.slice po L.length pc).ownBlock → ((Value.slice po L.length pc).ownBlock = some g ∨ wr.heap.size ≤ g) → Lk w w.heap.size (w'.setCell ⟨w.heap.size, 0, none⟩ (.slice (some ⟨g, 0, none⟩) (L.length + 1) cap)) (.slice (some ⟨g, 0, none⟩) (L.length + 1) cap) (L ++ [2048])) := fun g cap w' o1 g1 hat => (unhide hk).push rfl o1 g1 hat
      have HLB : Hid (L.length ≤ 2000000) := by have := unhide HLL; unfold Hid; omega
      go_wp2_with (at_builtin; refine append_pn rfl _ _ rfl w.heap.size (.slice po L.length pc) L rfl (unhide hk).own 2048 2048 rfl rfl (unhide HLB) (unhide hk).grown.size ?_)
      intro g7 c7 w7 o7 g7w hat7
      have HP7 := hide (unhide HPU g7 c7 w7 o7 g7w hat7)
      have b7 := grown_atC g7w (unhide hk).box (unhide hk).ne
      have m1 : w7.cell? ⟨w.heap.size, 0, none⟩ = some (.slice po L.length pc) := by rw [cell_of_row w7 _ 0 _ _ (0, 0) b7]; rfl
      have m2 : w7.frozen? ⟨w.heap.size, 0, none⟩ = false := frozen_of_row w7 _ 0 _ _ b7
      obtain ⟨ol, HOLN⟩ : ∃ ol, Hid (L.length + 1 = ol) := ⟨_, rfl⟩
      have HP8 : Hid (Lk w w.heap.size (w7.setCell ⟨w.heap.size, 0, none⟩ (.slice (some ⟨g7, 0, none⟩) ol c7)) (.slice (some ⟨g7, 0, none⟩) ol c7) (List.replicate (i + 1) 2048)) := by
        have h := unhide HP7
        rw [unhide HOLN, ← unhide HL, ← List.replicate_succ'] at h
        exact h
      rw [unhide HOLN]
      clear o7 g7w hat7 b7 HPU HP7 hk c0
      go_wp2
      go_roundw
      case rel => exact ⟨i + 1, _, by omega, by go_num, HP8⟩
      case measure => simp [intOf]; omega
    · obtain rfl : i = 400 := by omega
      rw [← unhide HL] at hk
      clear c0
      go_wp2
      go_ret
      exact ⟨_, rfl, unhide hk⟩

end Go.Proofs.Ytekidfkahpaokaa
