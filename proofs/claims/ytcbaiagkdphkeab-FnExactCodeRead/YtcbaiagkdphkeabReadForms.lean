/-
  What CodeRead gives, in the form that the law's walk takes.
-/
import Derived.Test.YtcbaiagkdphkeabReadSpec
import Derived.Test.YtcbaiagkdphkeabBytes
import Derived.Test.YtcbaiagkdphkeabIntRows
namespace Go.Proofs.Ytcbaiagkdphkeab
open Go.RowKit

def ImplReadE : Prop := ∀ (ao : Option Addr) (n cap : Nat) (xs : List Int) (bo : Option Addr) (m bc : Nat) (zs : List Int) (N : Int) (w : World), Rd .i64 w ao n xs → Rd .u8 w bo m zs → (∀ i, 0 ≤ zs.getD i 0 ∧ zs.getD i 0 ≤ 255) → n ≤ 1048576 → m ≤ 1048576 →
  Calls Try.prog 18 #[.slice ao n cap, .slice bo m bc, .int .i64 N] w fun e w' => ∃ co cc, e = .returned (.tuple #[.slice co (readG xs zs N).length cc, .bool (readB xs zs N)]) ∧ w'.ownsRow w.heap.size 3 1 (.slice co (readG xs zs N).length cc) (readG xs zs N).length ((readG xs zs N).map (Value.int .i64)) ∧ w.grownBy w' none

theorem symsG_len {cs : List (Int × Int)} {zs : List Int} : ∀ {n p : Nat} {t : List Int}, symsG cs zs p n = some t → t.length = n
  | 0, p, t, h => by unfold symsG at h; have e := Option.some.inj h; subst e; rfl
  | n + 1, p, t, h => by
    unfold symsG at h
    cases hs : symG cs zs p with
    | none => rw [hs] at h; simp at h
    | some a =>
      obtain ⟨s, q⟩ := a
      rw [hs] at h
      dsimp only at h
      rw [Option.map_eq_some_iff] at h
      obtain ⟨u, hu, rfl⟩ := h
      rw [List.length_cons, symsG_len hu]
theorem readG_short (xs zs : List Int) (N : Int) : (readG xs zs N).length ≤ 60000 := by
  unfold readG readO
  split
  · rename_i h
    cases hs : symsG (codesG xs) zs 0 N.toNat with
    | none => simp
    | some t => rw [Option.getD_some, symsG_len hs]; omega
  · simp

theorem specReadL (ao : Option Addr) (n cap : Nat) (xs : List Int) (bo : Option Addr) (m bc : Nat) (zs : List Int) (w : World) (hr : Rd .i64 w ao n xs) (hz : Rd .u8 w bo m zs) (hb : ∀ i, 0 ≤ zs.getD i 0 ∧ zs.getD i 0 ≤ 255) (hm : m ≤ 4194304) (N : Int) (L : List Int) (ok : Bool) (HL : Hid (readG xs zs N = L ∧ readB xs zs N = ok)) :
    Calls Try.prog 16 #[.slice ao n cap, .slice bo m bc, .int .i64 N] w fun e w' => ∃ so sc, e = .returned (.tuple #[.slice so L.length sc, .bool ok]) ∧ w'.ownsRow w.heap.size 3 1 (.slice so L.length sc) L.length (L.map (Value.int .i64)) ∧ w.grownBy w' none := by
  have h := specCodeRead ao n cap xs bo m bc zs N w hr hz hb hm
  rw [(unhide HL).1, (unhide HL).2] at h
  exact h

theorem implReadL (HI : Hid ImplReadE) (ao : Option Addr) (n cap : Nat) (xs : List Int) (bo : Option Addr) (m bc : Nat) (zs : List Int) (w : World) (hr : Rd .i64 w ao n xs) (hz : Rd .u8 w bo m zs) (hb : ∀ i, 0 ≤ zs.getD i 0 ∧ zs.getD i 0 ≤ 255) (hn : n ≤ 1048576) (hm : m ≤ 1048576) (N : Int) (L : List Int) (ok : Bool) (HL : Hid (readG xs zs N = L ∧ readB xs zs N = ok)) :
    Calls Try.prog 18 #[.slice ao n cap, .slice bo m bc, .int .i64 N] w fun e w' => ∃ so sc, e = .returned (.tuple #[.slice so L.length sc, .bool ok]) ∧ w'.ownsRow w.heap.size 3 1 (.slice so L.length sc) L.length (L.map (Value.int .i64)) ∧ w.grownBy w' none := by
  have h := unhide HI ao n cap xs bo m bc zs N w hr hz hb hn hm
  rw [(unhide HL).1, (unhide HL).2] at h
  exact h

end Go.Proofs.Ytcbaiagkdphkeab
