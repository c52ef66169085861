/-
  The walks of the program's PackBits, from the writer's methods on.
-/
import Derived.Test.YtcbaiagkdphkeaaPackImpl
import Derived.Outline
namespace Go.Proofs.Ytcbaiagkdphkeaa
open Go.RowKit

set_option maxHeartbeats 800000 in
theorem implPassW (tb : Nat) (v : Value) (bs : List Bool) (l : Nat) (y : Int) (w : World) (ht : Wr w tb v bs) (hb : bs.length + l ≤ 480000) (hl : l ≤ 16) (hy0 : 0 ≤ y) (hy1 : y < 65536) :
    Calls Try.prog 100 #[.pointer (some ⟨tb, 0, none⟩), .agg #[.int .i64 l, .int .i64 y]] w fun e w' => e = .returned (.int .i64 y) ∧ ∃ v', Wr w' tb v' (bs ++ bitsOf l y) ∧ Wf tb w w' := by
  have hlt := ht.lt
  have t0 := ht.alloc (Obj.cells #[.int .i64 l, .int .i64 y] 30)
  have hbox : Hid ((w.alloc (.cells #[.int .i64 l, .int .i64 y] 30)).heap[w.heap.size]? = some (Obj.cells #[.int .i64 l, .int .i64 y] 30 (0, 0))) := heap_alloc_new w _
  have f0 : Hid (Wf tb w (w.alloc (.cells #[.int .i64 l, .int .i64 y] 30))) := (Wf.refl tb w).alloc (by omega) _
  have hmf : ∀ (fn : Fn) (first cap : Array Value) (w : World), (Instr.makeFunc fn first cap).run Try.prog w = .ok (.func fn first cap) w := fun _ _ _ _ => rfl
  go_enter Try.func100, Try.ntmps100
  go_wp2_with fail
  refine (implEachBit tb v bs l y _ (by exact t0) hb hl hy0 hy1).mono ?_
  rintro e w1 ⟨rfl, u, ht1, hwf1⟩
  have hbk := hwf1.boxes _ _ (unhide hbox)
  have cv : w1.cell? ⟨w.heap.size, 1, none⟩ = some (.int .i64 y) := by rw [cell_of_row w1 w.heap.size 1 _ _ (0, 0) hbk]; rfl
  clear hbk
  go_wp2
  go_ret
  exact ⟨rfl, u, ht1, (unhide f0).trans hwf1⟩

/-- The writer's methods, as a call through the interface finds them. -/
theorem methW_left (a : Addr) (w : World) : (method 228 82 (.pointer (some a)) "loop.example/g00139/impl.left").run Try.prog w = .ok (99, .pointer (some a)) w := by kernel_rfl
theorem methW_pass (a : Addr) (w : World) : (method 228 82 (.pointer (some a)) "loop.example/g00139/impl.pass").run Try.prog w = .ok (100, .pointer (some a)) w := by kernel_rfl

set_option maxHeartbeats 800000 in
theorem passW (tb : Nat) (v : Value) (bs : List Bool) (l : Nat) (y : Int) (w : World) (ht : Wr w tb v bs) (hb : bs.length + l ≤ 480000) (hl : l ≤ 16) (hy0 : 0 ≤ y) (hy1 : y < 65536) :
    Calls Try.prog 60 #[.iface 82 (.pointer (some ⟨tb, 0, none⟩)), .agg #[.int .i64 l, .int .i64 y]] w fun e w' => e = .returned (.tuple #[.int .i64 y, .bool true]) ∧ ∃ v', Wr w' tb v' (bs ++ bitsOf l y) ∧ Wf tb w w' := by
  have hlt := ht.lt
  have t0 := ht.alloc (Obj.cells #[.int .i64 l, .int .i64 y] 30)
  have f0 : Hid (Wf tb w (w.alloc (.cells #[.int .i64 l, .int .i64 y] 30))) := (Wf.refl tb w).alloc (by omega) _
  have hbt : Hid (decide (0 ≤ (l : Int) ∧ (l : Int) ≤ 16) = true) := decide_eq_true (by omega)
  have hgt : decide ((480000 - bs.length : Int) < (l : Int)) = false := by simp; omega
  have mL := methW_left ⟨tb, 0, none⟩
  have mP := methW_pass ⟨tb, 0, none⟩
  go_enter Try.func60, Try.ntmps60
  go_wp2
  go_quiet ((first | (go_at_call 71; exact Calls.quiet_of_same (implLenOk l true hbt _)) | (go_at_call 99; exact Calls.quiet_of_same (leftW tb v bs _ t0 (by omega)))))
  go_wp2_with fail
  refine (implPassW tb v bs l y _ (by exact t0) hb hl hy0 hy1).mono ?_
  rintro e w2 ⟨rfl, u, t2, g2⟩
  clear mL mP
  go_wp2
  go_ret2
  exact ⟨rfl, u, t2, ((unhide f0).drewN _).trans g2⟩

set_option maxHeartbeats 1600000 in
theorem implPackBits (ao : Option Addr) (n cap : Nat) (fs : List (Int × Int)) (w : World) (hr : RdF w ao n fs) (hn : n ≤ 4194304) :
    Calls Try.prog 50 #[.slice ao n cap] w fun e w' => ∃ bo cap', e = .returned (.slice bo (packed fs).length cap') ∧
      w'.ownsRow w.heap.size 5 1 (.slice bo (packed fs).length cap') (packed fs).length ((packed fs).map (Value.int .u8)) ∧ w.grownBy w' none := by
  have HR := hide hr
  obtain ⟨hl, hc⟩ := hr
  cases hok : okF fs with
  | false =>
    have HP : Hid (packed fs = []) := by unfold Hid packed; rw [hok]; rfl
    have HOK := hide hok
    clear hok
    go_enter Try.func50, Try.ntmps50
    go_wp2_with fail
    refine (implFieldsOk ao n cap fs w (unhide HR) hn).mono ?_
    rintro e w1 ⟨rfl, g1⟩
    rw [unhide HOK]
    go_wp2
    go_ret
    exact ⟨none, 0, by rw [unhide HP]; rfl, by rw [unhide HP]; exact World.ownsRow_nil _ _ _ _, g1⟩
  | true =>
    have HP : Hid (packed fs = packB (allBits fs)) := by unfold Hid packed; rw [hok]; rfl
    have HOK := hide hok
    clear hok
    go_enter Try.func50, Try.ntmps50
    go_wp2_with fail
    refine (implFieldsOk ao n cap fs w (unhide HR) hn).mono ?_
    rintro e w1 ⟨rfl, g1⟩
    rw [unhide HOK]
    have t0 : Wr (w1.alloc (.cells #[.slice none 0 0, .int .i64 0] 84)) w1.heap.size (.slice none 0 0) [] := ⟨heap_alloc_new w1 _, World.ownsRow_nil _ _ _ _⟩
    have b0 : Below w1.heap.size w1 (w1.alloc (.cells #[.slice none 0 0, .int .i64 0] 84)) := (Below.refl _ _).alloc (Nat.le_refl _) _
    go_wp2
    go_loopw [13] (fun i wr => ∃ (k : Nat) (u : Value), k ≤ n ∧ i = .int .i64 k ∧ Wr wr w1.heap.size u (allBits (fs.take k)) ∧ Below w1.heap.size w1 wr) (fun i _ => n - (intOf i).toNat)
    case atStart => exact ⟨0, _, Nat.zero_le _, rfl, t0, b0⟩
    case round =>
      obtain ⟨k, u, hk, rfl, htk, hbl⟩ := hrel
      clear t0 b0
      by_cases hlt : k < n
      · obtain ⟨b, off, rfl, hc1, hc2⟩ := hc k hlt
        have hca : wr.cell? ⟨b, off + k * 2, none⟩ = _ := (hbl.cell (p := ⟨b, off + k * 2, none⟩) (World.block_lt_of_cell? w1 _ (g1.cell hc1 (by simp)))).trans (g1.cell hc1 (by simp))
        have hcb : wr.cell? ⟨b, off + k * 2 + 1, none⟩ = _ := (hbl.cell (p := ⟨b, off + k * 2 + 1, none⟩) (World.block_lt_of_cell? w1 _ (g1.cell hc2 (by simp)))).trans (g1.cell hc2 (by simp))
        have hfl := okF_field (unhide HOK) k (by omega)
        have hrm := okF_room (unhide HOK) k (by omega)
        have HT := hide (allBits_take fs k (by omega))
        clear hc hc1 hc2
        generalize fs.getD k (0, 0) = f at hca hcb hfl hrm HT
        obtain ⟨x, y⟩ := f
        obtain ⟨⟨hx1, hx2⟩, ⟨hy1, hy2⟩⟩ := hfl
        have hx1' : 0 ≤ x := hx1
        have hx2' : x ≤ 16 := hx2
        have hy1' : 0 ≤ y := hy1
        have hpw := (pow_small x hx2').2
        have hy2' : y < 65536 := by have : y < 2 ^ x.toNat := hy2; omega
        clear hx1 hx2 hy1 hy2 hpw
        obtain ⟨l, rfl⟩ := Int.eq_ofNat_of_zero_le hx1'
        have hrm' : ((allBits (fs.take k)).length : Int) + l ≤ 480000 := hrm
        rw [Int.toNat_natCast] at HT
        clear hrm hx1'
        generalize allBits (fs.take k) = acc at *
        have hlt1 := htk.lt
        have t1 := htk.alloc (Obj.cells #[.int .i64 l, .int .i64 y] 30)
        go_wp2_with fail
        refine (passW w1.heap.size u acc l y _ (by exact t1) (by omega) (by omega) hy1' hy2').mono ?_
        rintro e w2 ⟨rfl, u2, t2, f2⟩
        have hbl2 : Below w1.heap.size w1 w2 := (hbl.alloc (by omega) _).trans f2.below
        clear f2 t1 htk hbl
        go_wp2
        go_roundw
        case rel => exact ⟨k + 1, u2, by omega, by go_num, by rw [unhide HT]; exact t2, hbl2⟩
        case measure => simp [intOf]; omega
      · have hkn : k = n := by omega
        subst hkn
        rw [List.take_of_length_le (by omega)] at htk
        have hob := htk.2
        have c0 := htk.c0
        obtain ⟨bo, cap', rfl⟩ := own_form hob
        have G : Hid (w.grownBy wr none) := ⟨hbl.os.trans g1.os, hbl.tape.trans g1.tape, hbl.output.trans g1.output, Nat.le_trans g1.size hbl.size, fun j hj hr => (hbl.block j (by have := g1.size; omega)).trans (g1.block j hj hr)⟩
        have HO := hide (own_base hob (show w.heap.size ≤ w1.heap.size + 1 by have := g1.size; omega))
        clear hc htk hob
        go_wp2
        go_ret
        exact ⟨bo, cap', by rw [unhide HP]; rfl, by rw [unhide HP]; exact unhide HO, unhide G⟩

end Go.Proofs.Ytcbaiagkdphkeaa
