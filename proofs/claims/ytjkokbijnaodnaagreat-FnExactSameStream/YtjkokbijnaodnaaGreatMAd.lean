/-
  ScriptGive, SzBytes, Bytes, StorePart, RowOps, InfoInt, TabKit, StreamRows, StreamOpenB, ListsSame, EqImpl, FrFx.
-/
import Derived.Test.YtjkokbijnaodnaaGreatRows
import Derived.Deep.QuietTactic
import Derived.BigQuiet
import Derived.Deep.WholeRow
import Derived.Deep.MidRow
import Derived.Laws.ResultCell
import Derived.WalkKit
import Derived.ChangeKeysEq
import Derived.Maps.AppendAt
import Derived.Deep.SlicePairs
import Derived.Test.YtjkokbijnaodnaaGreatMAc

namespace Go.Proofs.YtjkokbijnaodnaaGreat
open Go.RowKit

theorem sumN_in {α : Type} (f : α → Nat) : ∀ (L : List α) (a : α), a ∈ L → f a ≤ sumN (L.map f)
  | [], a, h => by simp at h
  | b :: L, a, h => by
    simp only [List.map_cons, sumN]
    rcases List.mem_cons.1 h with rfl | h
    · omega
    · have := sumN_in f L a h
      omega
/-- Each scan of a script that is not too great. -/
theorem sz_scan {S : List Scn} {b : Nat} (h : szR szSc S ≤ b) : ∀ a ∈ S, a.cs.length ≤ b := fun a ha => by
  have h1 := sumN_in szSc S a ha
  unfold szR at h
  have h2 : szSc a = a.cs.length := rfl
  omega
theorem sumN_top {α : Type} (f : α → Nat) (b : Nat) : ∀ L : List α, (∀ a ∈ L, f a ≤ b) → sumN (L.map f) ≤ L.length * b
  | [], _ => by simp [sumN]
  | a :: r, h => by
    have h1 := h a (by simp)
    have h2 := sumN_top f b r (fun x hx => h x (by simp [hx]))
    simp only [List.map_cons, sumN, List.length_cons, Nat.add_mul, Nat.one_mul]
    omega
theorem sz_left {fb : Bool} {n : Nat} {S : List Scn} {C : Nat → Nat → Int} {p wd ht rs : Int} (HFB : frameB p wd ht rs n C = fb) : szR lenI (leftG fb n S) ≤ 1000 := by
  have h : (leftG fb n S).length ≤ 4 ∧ ∀ r ∈ leftG fb n S, lenI r ≤ 64 := by
    unfold leftG
    cases h : leftO fb n S with
    | none => exact ⟨by simp, fun r hr => by simp at hr⟩
    | some X =>
      have h64 := leftO_rows h
      have hfb : fb = true := by
        unfold leftO at h
        cases fb with
        | true => rfl
        | false => simp at h
      subst hfb
      refine ⟨by show X.length ≤ 4; rw [h64.1]; exact (geo_of HFB).n4, fun r hr => ?_⟩
      obtain ⟨c, hc, rfl⟩ := List.mem_iff_getElem.1 (show r ∈ X from hr)
      have e : X.getD c [] = X[c] := by simp [hc]
      have := h64.2 c (by rw [← h64.1]; exact hc)
      rw [e] at this
      show X[c].length ≤ 64
      omega
  have h1 := sumN_top lenI 64 (leftG fb n S) h.2
  have h2 := h.1
  unfold szR
  omega
theorem cnt_szR {α : Type} (f g : α → Nat) (h : ∀ a, f a ≤ g a) : ∀ L : List α, sumN (L.map f) ≤ sumN (L.map g)
  | [] => Nat.le_refl _
  | a :: r => by simp only [List.map_cons, sumN]; have := h a; have := cnt_szR f g h r; omega
theorem sz_script {fb : Bool} {n : Nat} {kind : Int} {C : Nat → Nat → Int} {p wd ht rs : Int} (HFB : frameB p wd ht rs n C = fb) : szR szSc (scriptG fb n kind) ≤ 1000 := by
  cases fb with
  | false => exact Nat.zero_le _
  | true =>
    have h4 := (geo_of HFB).n4
    have hn : n = 0 ∨ n = 1 ∨ n = 2 ∨ n = 3 ∨ n = 4 := by omega
    by_cases h0 : kind = 0
    · subst h0; rcases hn with rfl | rfl | rfl | rfl | rfl <;> decide
    · by_cases h1 : kind = 1
      · subst h1; rcases hn with rfl | rfl | rfl | rfl | rfl <;> decide
      · by_cases h2 : kind = 2
        · subst h2; rcases hn with rfl | rfl | rfl | rfl | rfl <;> decide
        · have e : scriptG true n kind = [] := by unfold scriptG; rw [if_pos rfl, if_neg h0, if_neg h1, if_neg h2]
          rw [e]
          exact Nat.zero_le _

theorem cnt_scans (S : List Scn) : cntR cntSc S ≤ 4 * szR szSc S := by
  have h : ∀ L : List Scn, sumN (L.map cntSc) ≤ 4 * (sumN (L.map szSc) + L.length) := fun L => by
    induction L with
    | nil => simp [sumN]
    | cons a r ih =>
      simp only [List.map_cons, sumN, List.length_cons]
      have e : cntSc a = szSc a + 4 := rfl
      omega
  have := h S
  unfold cntR szR
  omega
theorem RdSsZ.st {w w' : World} {v : Value} {L : List Scn} (h : RdSsZ w v L) (g : w.grownBy w' none) : RdSsZ w' v L :=
  ⟨RdG.st (fun _ _ _ _ h g => ⟨h.1, RdI.st .i64 _ _ _ _ h.2.1 g, h.2.2⟩) _ _ _ _ h.1 g, h.2⟩

def ImplScriptOk : Prop := ∀ (p wd ht rs : Int) (fo : Option Addr) (n fc : Nat) (C : Nat → Nat → Int) (v : Value) (S : List Scn) (w : World), RdC w fo n C → n ≤ 4194304 → RdSs w v S → szR szSc S ≤ 1048576 → ∀ (fb t : Bool), Hid (frameB p wd ht rs n C = fb) → Hid (scriptB fb n S = t) →
    Calls Tryz.prog 49 #[.agg #[.int .i64 p, .int .i64 wd, .int .i64 ht, .int .i64 rs, .slice fo n fc], v] w fun e w' => e = .returned (.bool t) ∧ w.grownBy w' none

/-- A frame that came in, in its box. -/
structure In1 (w W : World) (bs : Array Value) : Prop where
  fb : W.heap[w.heap.size]? = some (.cells bs 24 (0, 0))
  grown : w.grownBy W none
theorem In1.new {w W W' : World} {bs : Array Value} (h : In1 w W bs) (g : W.grownBy W' none) : In1 w W' bs := ⟨grown_atT g h.fb (by simp), grown_trans h.grown g⟩
theorem In1.size {w W : World} {bs : Array Value} (h : In1 w W bs) : w.heap.size + 1 ≤ W.heap.size := (Array.getElem?_eq_some_iff.1 h.fb).1
theorem In1.wr {w W W' : World} {bs : Array Value} {F : List Nat} (h : In1 w W bs) (g : Wr F W W') (hF : ∀ x ∈ F, w.heap.size + 1 ≤ x) : In1 w W' bs :=
  ⟨(g.block _ h.size (fun e => by have := hF _ e; omega)).trans h.fb, Wr.new h.grown g (fun x hx => by have := hF x hx; omega)⟩
theorem In1.start (w : World) (bs : Array Value) : In1 w (w.alloc (.cells bs 24)) bs := ⟨heap_alloc_new w _, World.grownBy_alloc _ _ _⟩

end Go.Proofs.YtjkokbijnaodnaaGreat

namespace Go.Proofs.YtjkokbijnaodnaaGreat
open Go.RowKit

theorem szByteS (ao : Option Addr) (n cap : Nat) (left : Int) (r : Int) (w : World) (h0 : 0 ≤ left) (h1 : left ≤ 1048576) (hm : n ≤ 9223372036854775807) (hr : Hid ((if (n : Int) ≤ left then left - n else -1) = r)) :
    Calls Tryz.prog 13 #[.slice ao n cap, .int .i64 left] w fun e w' => e = .returned (.int .i64 r) ∧ w = w' := by
  by_cases h : (n : Int) ≤ left
  · have e : left - n = r := by have := unhide hr; rwa [if_pos h] at this
    subst e
    clear hr
    have hn : ¬ (left - (n : Int) < 0) := by omega
    go_enter Tryz.func13, Tryz.ntmps13
    go_wp2
    go_ret
    exact ⟨rfl, rfl⟩
  · have e : -1 = r := by have := unhide hr; rwa [if_neg h] at this
    subst e
    clear hr
    have hn : left - (n : Int) < 0 := by omega
    go_enter Tryz.func13, Tryz.ntmps13
    go_wp2
    go_ret
    exact ⟨rfl, rfl⟩

end Go.Proofs.YtjkokbijnaodnaaGreat

namespace Go.Proofs.YtjkokbijnaodnaaGreat
open Go.RowKit

theorem Tryz.info5 : (Tryz.prog.info? 5).map (fun i => (i.zero, i.size, i.bytes)) = some (some (.int .u8 0), 1, 1) := by kernel_rfl

set_option maxHeartbeats 400000 in
theorem toByteS (ao : Option Addr) (n cap : Nat) (zs : List Int) (w : World) (hr : Rd .u8 w ao n zs) (hn : n ≤ 4194304) :
    Calls Tryz.prog 21 #[.slice ao n cap] w fun e w' => e = .returned (.slice (some ⟨w.heap.size, 0, none⟩) n n) ∧
      w'.ownsRow w.heap.size 5 1 (.slice (some ⟨w.heap.size, 0, none⟩) n n) n (zs.map (Value.int .u8)) ∧ w.grownBy w' none := by
  obtain ⟨i0, hi, hz0, hz1, hz2⟩ := info_parts Tryz.info5
  obtain ⟨hl, hc⟩ := hr
  go_enter Tryz.func21, Tryz.ntmps21
  go_wp2_with (at_make; refine wpList_make_full _ rfl _ _ 30 rfl w.heap.size 5 i0 (.int .u8 0) 1 Tryz.underlying30 hi hz0 hz1 .i64 .i64 _ _ n rfl rfl rfl rfl (by rw [hz2]; omega) (by unfold maxLen; omega) (Nat.le_refl _) ?_)
  intro w1 hown hgrow
  have hown0 : w1.ownsRow w.heap.size 5 1 (.slice (some ⟨w.heap.size, 0, none⟩) n n) n (part .u8 zs 0) := by
    rw [part_zero, hl]
    have e : (madeCells #[Value.int .u8 0] n).toList = List.replicate n (.int .u8 0) := toList_madeCells_one _ _
    rw [← e]; exact hown
  clear hown hi hz0 hz1 hz2
  go_wp2
  go_loopw [4] (fun i wr => ∃ k : Nat, k ≤ n ∧ i = .int .i64 k ∧ wr.ownsRow w.heap.size 5 1 (.slice (some ⟨w.heap.size, 0, none⟩) n n) n (part .u8 zs k) ∧ w.grownBy wr none) (fun i _ => n - (intOf i).toNat)
  case atStart => exact ⟨0, Nat.zero_le _, rfl, hown0, hgrow⟩
  case round =>
    obtain ⟨k, hk, rfl, hownk, hgk⟩ := hrel
    clear hown0 hgrow
    by_cases hlt : k < n
    · obtain ⟨b, off, rfl, hcb⟩ := hc k hlt
      have hcell := hgk.cell hcb (by simp)
      have hfro := hownk.frozenAt k
      have hold : ∃ u, wr.cell? ⟨w.heap.size, k, none⟩ = some u := by rw [hownk.cellAt k (by omega)]; exact ⟨_, List.getElem?_eq_getElem (by rw [hownk.1]; omega)⟩
      obtain ⟨u, hu⟩ := hold
      have hst := hownk.stored k (.int .u8 (zs.getD k 0))
      rw [part_set .u8 zs k (by omega)] at hst
      generalize zs.getD k 0 = x at hcell hst
      have hg' := grown_new hgk hst.2 (by intro g e; simp at e; omega)
      have HS := hst.1
      clear hst hownk hgk hc
      go_wp2
      go_roundw
      case rel => exact ⟨k + 1, by omega, by go_num, HS, hg'⟩
      case measure => simp [intOf]; omega
    · have hkn : k = n := by omega
      subst hkn
      go_wp2
      go_ret
      rw [← hl, part_all, hl] at hownk
      exact ⟨rfl, hownk, hgk⟩

set_option maxHeartbeats 400000 in
theorem eqByteS (ao bo : Option Addr) (n cap cap' : Nat) (zs : List Int) (w : World) (hx : Rd .u8 w ao n zs) (hy : Rd .u8 w bo n zs) (hn : n ≤ 4194304) :
    Calls Tryz.prog 31 #[.slice ao n cap, .slice bo n cap'] w fun e w' => e = .returned (.bool true) ∧ w.grownBy w' none := by
  obtain ⟨hl, hc⟩ := hx
  obtain ⟨_, hd⟩ := hy
  have hne : ((n : Int) != n) = false := by simp
  go_enter Tryz.func31, Tryz.ntmps31
  go_wp2
  go_loopw [5] (fun i wr => ∃ k q : Nat, k ≤ n ∧ i = .int .i64 k ∧ wr = w.drewN q) (fun i _ => n - (intOf i).toNat)
  case atStart => exact ⟨0, 0, Nat.zero_le _, rfl, rfl⟩
  case round =>
    obtain ⟨k, q, hk, rfl, rfl⟩ := hrel
    by_cases hlt : k < n
    · obtain ⟨b, off, rfl, hcb⟩ := hc k hlt
      obtain ⟨b', off', rfl, hcd⟩ := hd k hlt
      generalize zs.getD k 0 = x at hcb hcd
      have hik : (k : Int) < (n : Int) := by omega
      clear hc hd
      go_wp2
      go_quiet (fail)
      go_wp2
      go_roundw
      case rel => exact ⟨k + 1, _, by omega, by go_num, rfl⟩
      case measure => simp [intOf]; omega
    · go_wp2
      go_ret
      exact ⟨rfl, grown_drewN (World.grownBy.refl _ _) _⟩

end Go.Proofs.YtjkokbijnaodnaaGreat

namespace Go.Proofs.YtjkokbijnaodnaaGreat
open Go.RowKit

theorem wpList_store_part {P : Program} {ops : Array Oper} {rest : List Oper} {op : Oper} {a : Act} {w : World} {Q : Exit → Act → World → Prop} (hw : Region.wanted op (yielded ops a.tmps) = true) (ty : TypeId) (x y : Operand) (ho : op.op = .store ty x y)
    (b o : Nat) (hx : a.eval x = .pointer (some ⟨b, o, none⟩)) (cells : Array Value) (hy : a.eval y = .agg cells) (X : Array Value) (t : TypeId) (hb : w.heap[b]? = some (.cells X t (0, 0))) (hfit : o + cells.size ≤ X.size)
    (hi : (P.info? ty).map (·.size) = some cells.size) (h1 : cells.all (·.oneCell') = true)
    (h : ∀ w', Hid (w'.heap[b]? = some (.cells (X.toList.take o ++ cells.toList ++ X.toList.drop (o + cells.toList.length)).toArray t (0, 0))) → w.grownBy w' (some b) → wpList P ops Q rest (a.put op.dst undef) w') : wpList P ops Q (op :: rest) a w :=
  BigFrame.wpList_want hw fun K hK => by
    have hst := run_storeCells_at P b o t cells.toList 0 X w hb (by simpa using hfit) (fun v hv => (Array.all_eq_true_iff_forall_mem.1 h1) v (by simpa using hv))
    rw [Nat.add_zero] at hst
    have hrun : (storeVar ty ⟨b, o, none⟩ (.agg cells)).run P w = .ok () (w.setRow b (X.toList.take o ++ cells.toList ++ X.toList.drop (o + cells.toList.length)).toArray) := by
      cases hq : P.info? ty with
      | none => simp [hq] at hi
      | some i =>
        have hs : cells.size = i.size := by simp [hq] at hi; omega
        have hst' : (storeCells ⟨b, o, none⟩ cells.toList 0).run P w = .ok () (w.setRow b (X.toList.take o ++ cells.toList ++ X.toList.drop (o + cells.toList.length)).toArray) := hst
        simp only [storeVar, sizeOf, typeInfo, Value.cells, Sem.run_bind, Sem.run_pure, hs]
        simp [hq, hs] at hst' ⊢
        exact hst'
    unfold Oper.wp execOp
    simp only [ho, hx, hy, Instr.storeAt, Instr.sureAddr, Sem.run_bind, Sem.run_pure, Result.andThen_ok, hrun]
    exact hK _ _ (h _ (setRow_heap w b X _ t _ hb) (grown_setRow w b _))

end Go.Proofs.YtjkokbijnaodnaaGreat

namespace Go.Proofs.YtjkokbijnaodnaaGreat
open Go.RowKit

theorem load_row {P : Program} {ops : Array Oper} {rest : List Oper} {op : Oper} {a : Act} {w : World} {Q : Exit → Act → World → Prop} (hw : Region.wanted op (yielded ops a.tmps) = true) (ty : TypeId) (x : Operand) (ho : op.op = .load ty x)
    (b : Nat) (hx : a.eval x = .pointer (some ⟨b, 0, none⟩)) (X : Array Value) (t : TypeId) (hb : w.heap[b]? = some (.cells X t (0, 0))) (d : TypeDesc)
    (hu : P.underlying ty = some d) (hd : d.isRow = true) (hi : (P.info? ty).map (·.size) = some X.size)
    (h : wpList P ops Q rest (a.put op.dst (.agg X)) w) : wpList P ops Q (op :: rest) a w :=
  BigFrame.wpList_want hw fun _ hK => wp_load_mid ty x ho b 0 hx X.toList d (fun j v hv => by rw [cell_of_row w b (0 + j) X t (0, 0) hb]; simpa using hv) hu hd (by simpa using hi) (hK _ _ (by simpa using h))
theorem exec_row {P : Program} {ev : Operand → Value} {op : Oper} {w : World} (ty : TypeId) (x : Operand) (ho : op.op = .load ty x) (b : Nat) (hx : ev x = .pointer (some ⟨b, 0, none⟩)) (X : Array Value) (t : TypeId) (hb : w.heap[b]? = some (.cells X t (0, 0))) (d : TypeDesc)
    (hu : P.underlying ty = some d) (hd : (match d with | .struct _ | .array _ _ => true | _ => false) = true) (hi : (P.info? ty).map (·.size) = some X.size) : (execOp ev op).run P w = .ok (.value (.agg X)) w := by
  unfold execOp
  simp only [ho, hx, Instr.loadAt, Instr.sureAddr, Sem.run_bind, Sem.run_pure, Result.andThen_ok, run_loadVar_row w b t ty X (0, 0) d hb hu hd hi]
theorem results_c1 {fn : Func} {p : Tmp} {ty : TypeId} (h : fn.results = #[.cell p ty]) (tmps : Array Value) (P : Program) (w : World) :
    (results fn tmps).run P w = ((asAddr (tmps.getD p undef)).run P w).andThen fun a w₁ => (loadVar ty a).run P w₁ := by
  simp only [results, h]
  simp [Sem.run_bind, Result.andThen]
theorem results_c2 {fn : Func} {p q : Tmp} {ty : TypeId} (h : fn.results = #[.cell p ty, .tmp q]) (tmps : Array Value) (P : Program) (w : World) (g : Nat) (hp : tmps.getD p undef = .pointer (some ⟨g, 0, none⟩)) (x : Value) (hl : (loadVar ty ⟨g, 0, none⟩).run P w = .ok x w) :
    (results fn tmps).run P w = .ok (.tuple #[x, tmps.getD q undef]) w := by
  simp only [results, h]
  have ha : (asAddr (.pointer (some ⟨g, 0, none⟩))).run P w = .ok ⟨g, 0, none⟩ w := by simp [asAddr]
  have hp' : tmps[p]?.getD undef = .pointer (some ⟨g, 0, none⟩) := by simpa using hp
  simp [Sem.run_bind, Result.andThen, hp', hl, ha]
theorem load_mid {P : Program} {ops : Array Oper} {rest : List Oper} {op : Oper} {a : Act} {w : World} {Q : Exit → Act → World → Prop} (hw : Region.wanted op (yielded ops a.tmps) = true) (ty : TypeId) (x : Operand) (ho : op.op = .load ty x)
    (b off : Nat) (hx : a.eval x = .pointer (some ⟨b, off, none⟩)) (X : Array Value) (hb : ∀ j v, X[j]? = some v → w.cell? ⟨b, off + j, none⟩ = some v) (d : TypeDesc)
    (hu : P.underlying ty = some d) (hd : d.isRow = true) (hi : (P.info? ty).map (·.size) = some X.size)
    (h : wpList P ops Q rest (a.put op.dst (.agg X)) w) : wpList P ops Q (op :: rest) a w :=
  BigFrame.wpList_want hw fun _ hK => wp_load_mid ty x ho b off hx X.toList d (fun j v hv => hb j v (by simpa using hv)) hu hd (by simpa using hi) (hK _ _ (by simpa using h))
theorem grown_row (w : World) (g : Nat) (X : Array Value) : w.grownBy (w.setRow g X) (some g) :=
  ⟨rfl, rfl, rfl, by simp [World.setRow], fun k _ hk => setRow_other w g k X (fun e => hk (by simp [e]))⟩
theorem step_store_row {P : Program} {op : Oper} {a : Act} {w : World} {K : Act → World → Prop} {Q : Exit → Act → World → Prop} {t0 : Bool} {Z : Prop} (hw : t0 = true) (ty : TypeId) (x y : Operand) (ho : op.op = .store ty x y)
    (b : Nat) (hx : a.eval x = .pointer (some ⟨b, 0, none⟩)) (X : Array Value) (hy : a.eval y = .agg X) (Y : Array Value) (t : TypeId) (hb : w.heap[b]? = some (.cells Y t (0, 0))) (hYX : Y.size = X.size)
    (hi : (P.info? ty).map (·.size) = some X.size) (h1 : X.all (·.oneCell') = true)
    (h : ∀ w', w'.heap[b]? = some (.cells X t (0, 0)) → w.grownBy w' (some b) → K (a.put op.dst undef) w') : if t0 = true then Oper.wp P op a w K Q else Z := by
  rw [if_pos hw]
  unfold Oper.wp execOp
  simp only [ho, hx, hy, Instr.storeAt, Instr.sureAddr, Sem.run_bind, Sem.run_pure, Result.andThen_ok, run_storeVar_row w b t ty Y X hb hi hYX h1]
  exact h _ (setRow_heap w b Y X t _ hb) (grown_row w b X)
theorem store_row {P : Program} {ops : Array Oper} {rest : List Oper} {op : Oper} {a : Act} {w : World} {Q : Exit → Act → World → Prop} (hw : Region.wanted op (yielded ops a.tmps) = true) (ty : TypeId) (x y : Operand) (ho : op.op = .store ty x y)
    (b : Nat) (hx : a.eval x = .pointer (some ⟨b, 0, none⟩)) (X : Array Value) (hy : a.eval y = .agg X) (Y : Array Value) (t : TypeId) (hb : w.heap[b]? = some (.cells Y t (0, 0))) (hYX : Y.size = X.size)
    (hi : (P.info? ty).map (·.size) = some X.size) (h1 : X.all (·.oneCell') = true)
    (h : ∀ w', w'.heap[b]? = some (.cells X t (0, 0)) → w.grownBy w' (some b) → wpList P ops Q rest (a.put op.dst undef) w') : wpList P ops Q (op :: rest) a w :=
  BigFrame.wpList_want hw fun K hK => by
    unfold Oper.wp execOp
    simp only [ho, hx, hy, Instr.storeAt, Instr.sureAddr, Sem.run_bind, Sem.run_pure, Result.andThen_ok, run_storeVar_row w b t ty Y X hb hi hYX h1]
    exact hK _ _ (h _ (setRow_heap w b Y X t _ hb) (grown_row w b X))

end Go.Proofs.YtjkokbijnaodnaaGreat

namespace Go.Proofs.YtjkokbijnaodnaaGreat
end Go.Proofs.YtjkokbijnaodnaaGreat

namespace Go.Proofs.YtjkokbijnaodnaaGreat
open Go.RowKit

/-- The cells of numbers. -/
def sq (zs : List Int) : Array Value := (zs.map (Value.int .i64)).toArray
theorem sq_size (zs : List Int) : (sq zs).size = zs.length := by simp [sq]
theorem sq_one (zs : List Int) : (sq zs).all (·.oneCell') = true := by simp [sq, Value.oneCell']
theorem sq_at (zs : List Int) (i : Nat) (h : i < zs.length) : (sq zs)[i]? = some (.int .i64 (zs.getD i 0)) := by simp [sq, h]
/-- Sixty-four noughts. -/
def zs64 : List Int := List.replicate 64 0
theorem zs64_len : zs64.length = 64 := by simp [zs64]
theorem sq_z64 : sq zs64 = #[.int .i64 0, .int .i64 0, .int .i64 0, .int .i64 0, .int .i64 0, .int .i64 0, .int .i64 0, .int .i64 0, .int .i64 0, .int .i64 0, .int .i64 0, .int .i64 0, .int .i64 0, .int .i64 0, .int .i64 0, .int .i64 0, .int .i64 0, .int .i64 0, .int .i64 0, .int .i64 0, .int .i64 0, .int .i64 0, .int .i64 0, .int .i64 0, .int .i64 0, .int .i64 0, .int .i64 0, .int .i64 0, .int .i64 0, .int .i64 0, .int .i64 0, .int .i64 0, .int .i64 0, .int .i64 0, .int .i64 0, .int .i64 0, .int .i64 0, .int .i64 0, .int .i64 0, .int .i64 0, .int .i64 0, .int .i64 0, .int .i64 0, .int .i64 0, .int .i64 0, .int .i64 0, .int .i64 0, .int .i64 0, .int .i64 0, .int .i64 0, .int .i64 0, .int .i64 0, .int .i64 0, .int .i64 0, .int .i64 0, .int .i64 0, .int .i64 0, .int .i64 0, .int .i64 0, .int .i64 0, .int .i64 0, .int .i64 0, .int .i64 0, .int .i64 0] := by rfl
/-- A list whose first k numbers are f's. -/
def mix (f : Nat → Int) (zs : List Int) (k : Nat) : List Int := (List.range k).map f ++ zs.drop k
/-- Sixty-four numbers of f. -/
def made (f : Nat → Int) : List Int := (List.range 64).map f
theorem made_len (f : Nat → Int) : (made f).length = 64 := by simp [made]
theorem made_at (f : Nat → Int) (i : Nat) (h : i < 64) : (made f).getD i 0 = f i := by simp [made, h]
theorem made_take (f : Nat → Int) (k : Nat) (h : k < 64) (z : Int) (hz : z = f k) : (made f).take k ++ [z] = (made f).take (k + 1) := by
  subst hz
  rw [List.take_add_one]
  have : (made f)[k]? = some (f k) := by simp [made, h]
  rw [this]
  rfl
theorem made_take_all (f : Nat → Int) : (made f).take 64 = made f := List.take_of_length_le (by rw [made_len]; exact Nat.le_refl _)
theorem mix_zero (f : Nat → Int) (zs : List Int) : mix f zs 0 = zs := by simp [mix]
theorem mix_all (f : Nat → Int) (zs : List Int) (h : zs.length = 64) : mix f zs 64 = made f := by simp [mix, made, List.drop_eq_nil_of_le (Nat.le_of_eq h)]
theorem mix_len (f : Nat → Int) (zs : List Int) (k : Nat) (h : k ≤ zs.length) : (mix f zs k).length = zs.length := by simp [mix]; omega
theorem mix_set (f : Nat → Int) (zs : List Int) (k : Nat) (h : k < zs.length) : (sq (mix f zs k)).setIfInBounds k (.int .i64 (f k)) = sq (mix f zs (k + 1)) := by
  unfold sq mix
  apply Array.ext'
  simp only [List.setIfInBounds_toArray, List.map_append, List.range_succ, List.map_cons, List.map_nil, List.append_assoc]
  rw [List.set_append_right _ _ (by simp), List.drop_eq_getElem_cons h]
  simp only [List.map_cons, List.length_map, List.length_range, Nat.sub_self, List.set_cons_zero, List.cons_append, List.nil_append]
theorem made_congr {f g : Nat → Int} (h : ∀ p, p < 64 → f p = g p) : made f = made g := by
  unfold made
  apply List.map_congr_left
  intro p hp
  exact h p (by simpa using hp)
theorem made_set (f : Nat → Int) (j : Nat) (v : Int) (hj : j < 64) : (sq (made f)).setIfInBounds j (.int .i64 v) = sq (made (fun p => if p = j then v else f p)) := by
  apply Array.ext_getElem?
  intro i
  by_cases hi : i < 64
  · rw [Array.getElem?_setIfInBounds, sq_at _ i (by rw [made_len]; exact hi), sq_at _ i (by rw [made_len]; exact hi), sq_size, made_len, made_at _ i hi, made_at _ i hi]
    by_cases e : j = i
    · subst e; simp [hj]
    · simp [e, Ne.symm e]
  · rw [Array.getElem?_eq_none (by simp [sq_size, made_len]; omega), Array.getElem?_eq_none (by simp [sq_size, made_len]; omega)]
theorem sq_rd {w : World} {b off n : Nat} {zs : List Int} (h : Rd .i64 w (some ⟨b, off, none⟩) n zs) : ∀ j v, (sq zs)[j]? = some v → w.cell? ⟨b, off + j, none⟩ = some v := by
  intro j v hj
  have hjl : j < n := by
    have := (Array.getElem?_eq_some_iff.1 hj).1
    rw [sq_size, h.1] at this; exact this
  obtain ⟨b', off', e, hc⟩ := h.2 j hjl
  simp only [Option.some.injEq, Addr.mk.injEq, and_true] at e
  obtain ⟨rfl, rfl⟩ := e
  rw [hc, ← sq_at zs j (by rw [h.1]; exact hjl), hj]
theorem sq_cell {w : World} {g : Nat} {zs : List Int} {t : TypeId} (hb : w.heap[g]? = some (.cells (sq zs) t (0, 0))) (i : Nat) (h : i < zs.length) : w.cell? ⟨g, i, none⟩ = some (.int .i64 (zs.getD i 0)) := by
  rw [cell_of_row w _ i _ _ (0, 0) hb]; exact sq_at zs i h
theorem sq_frozen {w : World} {g : Nat} {zs : List Int} {t : TypeId} (hb : w.heap[g]? = some (.cells (sq zs) t (0, 0))) (i : Nat) : w.frozen? ⟨g, i, none⟩ = false := frozen_of_row w g i _ _ hb
/-- A number of an array that is held as a value. -/
theorem idx {zs : List Int} (hz : zs.length = 64) (k : Int) (h0 : 0 ≤ k) (h1 : k < 64) (w : World) : (Instr.index 116 (.agg (sq zs)) (.int .i64 k)).run Tryz.prog w = .ok (.int .i64 (zs.getD k.toNat 0)) w := by
  have h := sq_at zs k.toNat (by omega)
  simp [Instr.index, asIntOf, Sem.run_bind, run_underlying Tryz.underlying116, run_underlying Tryz.underlying3, Result.andThen_ok, h0, h1, Go.part, isAgg, h]

/-- One number more behind a row of one's own. -/
theorem append_int {w : World} {ops : Array Oper} {rest : List Oper} {o : Oper} {a : Act} {Q : Exit → Act → World → Prop} (hgd : o.guard = none) (s x : Operand)
    (ho : o.op = .call { callee := .builtin .append, args := #[s, x], argTypes := #[64, 64] })
    (B : World) (v : Value) (n : Nat) (xs : List Int) (hs : a.eval s = v) (hown : w.ownsRow B.heap.size 3 1 v n (xs.map (Value.int .i64))) (z : Int) (hx : a.eval x = .slice (some ⟨w.heap.size, 0, none⟩) 1 1)
    (hb : n + 1 ≤ 1000000) (hB : B.grownBy w none)
    (h : ∀ v' w', w'.ownsRow B.heap.size 3 1 v' (n + 1) ((xs ++ [z]).map (Value.int .i64)) → B.grownBy w' none → wpList Tryz.prog ops Q rest (a.put o.dst v') w') :
    wpList Tryz.prog ops Q (o :: rest) a (w.alloc (.cells #[.int .i64 z] 3)) := by
  obtain ⟨i0, hi, hz0, hz1, hz2⟩ := info_parts Tryz.info3
  refine wpList_append_own _ hgd s x 64 ho B.heap.size 3 i0 (.int .i64 0) 1 8 Tryz.underlying64 hi hz0 hz1 hz2 rfl (by decide) v n _ hs (hown.alloc _) ⟨w.heap.size, 0, none⟩ 1 1 [.int .i64 z] hx rfl (cell_one_new _ _ _) (by intro u hu; simp at hu; subst hu; rfl) (by unfold maxLen; omega) (by omega) (by have := hB.size; simp; omega) ?_
  intro v' w' h1 h2 _
  refine h v' w' (by rw [List.map_append]; exact h1) (grown_new (grown_alloc hB _) h2 (fun g e => (hown.lt g e).1))

/-- A row of one's own that grows from the block g0 on, all other blocks of S staying as they are. -/
structure OutI (B S : World) (g0 : Nat) (wr : World) (v : Value) (n : Nat) (xs : List Int) : Prop where
  own : wr.ownsRow B.heap.size 3 1 v n (xs.map (Value.int .i64))
  base : B.grownBy wr none
  kept : S.grownBy wr (some g0)
  lies : ∀ g, v.ownBlock = some g → g = g0 ∨ S.heap.size ≤ g
theorem append_out {w : World} {ops : Array Oper} {rest : List Oper} {o : Oper} {a : Act} {Q : Exit → Act → World → Prop} (hgd : o.guard = none) (s x : Operand)
    (ho : o.op = .call { callee := .builtin .append, args := #[s, x], argTypes := #[64, 64] })
    (B S : World) (g0 : Nat) (v : Value) (n : Nat) (xs : List Int) (hs : a.eval s = v) (hown : OutI B S g0 w v n xs) (z : Int) (hx : a.eval x = .slice (some ⟨w.heap.size, 0, none⟩) 1 1)
    (hb : n + 1 ≤ 1000000)
    (h : ∀ v' w', OutI B S g0 w' v' (n + 1) (xs ++ [z]) → wpList Tryz.prog ops Q rest (a.put o.dst v') w') :
    wpList Tryz.prog ops Q (o :: rest) a (w.alloc (.cells #[.int .i64 z] 3)) := by
  obtain ⟨i0, hi, hz0, hz1, hz2⟩ := info_parts Tryz.info3
  refine wpList_append_own_at _ hgd s x 64 ho B.heap.size 3 i0 (.int .i64 0) 1 8 Tryz.underlying64 hi hz0 hz1 hz2 rfl (by decide) v n _ hs (hown.own.alloc _) ⟨w.heap.size, 0, none⟩ 1 1 [.int .i64 z] hx rfl (cell_one_new _ _ _) (by intro u hu; simp at hu; subst hu; rfl) (by unfold maxLen; omega) (by omega) (by have := hown.base.size; simp; omega) ?_
  intro v' w' h1 h2 _ h4
  have hsz := hown.kept.size
  refine h v' w' ⟨by rw [List.map_append]; exact h1, grown_new (grown_alloc hown.base _) h2 (fun g e => (hown.own.lt g e).1), ?_, ?_⟩
  · have hA : S.grownBy (w.alloc (.cells #[.int .i64 z] 3)) (some g0) := grown_trans hown.kept (World.grownBy_alloc _ _ _)
    refine ⟨h2.os.trans hA.os, h2.tape.trans hA.tape, h2.output.trans hA.output, Nat.le_trans hA.size h2.size, fun k hk hne => (h2.block k (Nat.lt_of_lt_of_le hk hA.size) ?_).trans (hA.block k hk hne)⟩
    intro e
    rcases hown.lies k e.symm with e2 | e2
    · exact hne (by rw [e2])
    · omega
  · intro g e
    rcases h4 with h4 | h4
    · exact hown.lies g (by rw [← h4]; exact e)
    · rw [h4] at e
      simp at e
      right; omega

/-- Squares compared. -/
theorem eqSq {zs ys : List Int} (hz : zs.length = 64) (hy : ys.length = 64) (w : World) : (Op.equalIn 10000 116 (.agg (sq zs)) (.agg (sq ys))).run Tryz.prog w = .ok (zs == ys) w := by
  obtain ⟨i0, hi, _⟩ := info_parts Tryz.info3
  rw [run_equalIn_array w 9999 (sq zs) (sq ys) Tryz.underlying116 hi]
  have hc : Tryz.prog.cellsOf 3 = 1 := by kernel_rfl
  rw [hc]
  have key : ∀ (l : List Nat), (∀ i ∈ l, i < 64) → (Op.eqItems 9999 3 1 (sq zs) (sq ys) l).run Tryz.prog w = .ok (l.all fun i => zs.getD i 0 == ys.getD i 0) w := by
    intro l hl
    induction l with
    | nil => simp [Op.eqItems]
    | cons i l ih =>
      have hi : i < 64 := hl i (by simp)
      have h1 := sq_at zs i (by omega)
      have h2 := sq_at ys i (by omega)
      have px : (Go.part 3 (sq zs) (i * 1)).run Tryz.prog w = .ok (.int .i64 (zs.getD i 0)) w := by
        rw [Nat.mul_one]; simp [Go.part, isAgg, run_underlying Tryz.underlying3, h1]
      have py : (Go.part 3 (sq ys) (i * 1)).run Tryz.prog w = .ok (.int .i64 (ys.getD i 0)) w := by
        rw [Nat.mul_one]; simp [Go.part, isAgg, run_underlying Tryz.underlying3, h2]
      simp only [Op.eqItems, Sem.run_bind, px, py, Result.andThen_ok, run_equalIn_int w 9998 3 .i64 .i64 _ _ Tryz.underlying3, List.all_cons]
      cases hb : (zs.getD i 0 == ys.getD i 0)
      · simp
      · simp only [Bool.not_true, Bool.false_eq_true, if_false, Bool.true_and]
        exact ih fun j hj => hl j (by simp [hj])
  rw [key _ (fun i hi => by simpa using hi)]
  refine congrArg (fun b => Result.ok b w) ?_
  generalize hN : (64 : Nat) = N at *
  rw [Bool.eq_iff_iff]
  simp only [List.all_eq_true, List.mem_range, beq_iff_eq]
  constructor
  · intro h
    apply List.ext_getElem?
    intro i
    by_cases hi : i < N
    · have := h i hi
      rw [List.getElem?_eq_getElem (by omega), List.getElem?_eq_getElem (by omega)]
      simpa [List.getD_eq_getElem?_getD, show i < zs.length by omega, show i < ys.length by omega] using this
    · rw [List.getElem?_eq_none (by omega), List.getElem?_eq_none (by omega)]
  · rintro rfl i _; rfl

end Go.Proofs.YtjkokbijnaodnaaGreat

namespace Go.Proofs.YtjkokbijnaodnaaGreat
open Go.RowKit

theorem cells10 {w : World} {g : Nat} {a0 a1 a2 a3 a4 a5 a6 a7 a8 a9 : Value} {t : TypeId} (hb : w.heap[g]? = some (.cells #[a0, a1, a2, a3, a4, a5, a6, a7, a8, a9] t (0, 0))) :
    w.cell? ⟨g, 0, none⟩ = some a0 ∧ w.cell? ⟨g, 1, none⟩ = some a1 ∧ w.cell? ⟨g, 2, none⟩ = some a2 ∧ w.cell? ⟨g, 3, none⟩ = some a3 ∧ w.cell? ⟨g, 4, none⟩ = some a4 ∧ w.cell? ⟨g, 5, none⟩ = some a5 ∧ w.cell? ⟨g, 6, none⟩ = some a6 ∧ w.cell? ⟨g, 7, none⟩ = some a7 ∧ w.cell? ⟨g, 8, none⟩ = some a8 ∧ w.cell? ⟨g, 9, none⟩ = some a9 :=
  ⟨by rw [cell_of_row w _ 0 _ _ (0, 0) hb]; rfl, by rw [cell_of_row w _ 1 _ _ (0, 0) hb]; rfl, by rw [cell_of_row w _ 2 _ _ (0, 0) hb]; rfl, by rw [cell_of_row w _ 3 _ _ (0, 0) hb]; rfl, by rw [cell_of_row w _ 4 _ _ (0, 0) hb]; rfl, by rw [cell_of_row w _ 5 _ _ (0, 0) hb]; rfl, by rw [cell_of_row w _ 6 _ _ (0, 0) hb]; rfl, by rw [cell_of_row w _ 7 _ _ (0, 0) hb]; rfl, by rw [cell_of_row w _ 8 _ _ (0, 0) hb]; rfl, by rw [cell_of_row w _ 9 _ _ (0, 0) hb]; rfl⟩

/-- What is read of a stream: its components, tables, coefficients, script and note. -/
structure RdSt (W : World) (ao : Option Addr) (n : Nat) (C : Nat → Nat → Int) (vt : Value) (T : List (List Int)) (vc : Value) (X : List (List (List Int))) (vs : Value) (S : List Scn) (no : Option Addr) (nn : Nat) (zs : List Int) : Prop where
  fr : RdC W ao n C
  tb : Rd2 W vt T
  co : Rd3 W vc X
  sc : RdSs W vs S
  nt : Rd .u8 W no nn zs
theorem RdSt.st {W W' : World} {ao : Option Addr} {n : Nat} {C : Nat → Nat → Int} {vt : Value} {T : List (List Int)} {vc : Value} {X : List (List (List Int))} {vs : Value} {S : List Scn} {no : Option Addr} {nn : Nat} {zs : List Int} (h : RdSt W ao n C vt T vc X vs S no nn zs) (g : W.grownBy W' none) : RdSt W' ao n C vt T vc X vs S no nn zs :=
  ⟨h.fr.grown g, RdR.st (RdI.st .i64) _ _ _ _ h.tb g, st3 _ _ _ _ h.co g, RdSs.st _ _ _ _ h.sc g, h.nt.grown g⟩
/-- No part of it is greater than the laws look at. -/
structure Sz15 (n : Nat) (T : List (List Int)) (X : List (List (List Int))) (S : List Scn) (nn : Nat) : Prop where
  fr : n ≤ 1048576
  tb : szR lenI T ≤ 1048576
  co : szCo X ≤ 1048576
  sc : szR szSc S ≤ 1048576
  nt : nn ≤ 1048576

set_option maxRecDepth 20000 in
set_option maxHeartbeats 1600000 in
theorem szStream (p wd ht rs md : Int) (ao : Option Addr) (n cap : Nat) (vt : Value) (T : List (List Int)) (vc : Value) (X : List (List (List Int))) (vs : Value) (S : List Scn) (no : Option Addr) (nn nc : Nat) (w : World) (hn : n ≤ maxLen) (hT : RdZ (RdR (RdZ (RdI .i64))) w vt T) (hX : RdCz w (.agg #[vc]) X) (hS : RdSsZ w vs S) (hnn : nn ≤ maxLen) :
    Calls Tryz.prog 4 #[.agg #[.int .i64 p, .int .i64 wd, .int .i64 ht, .int .i64 rs, .slice ao n cap, vt, vc, .int .i64 md, vs, .slice no nn nc], .int .i64 1048576] w fun e w' => ∃ r : Int, e = .returned (.int .i64 r) ∧ (0 ≤ r → Sz15 n T X S nn) ∧ w.grownBy w' none := by
  unfold maxLen at hn hnn
  have s1 : StR (RdZ (RdI .i64)) := fun _ _ _ _ h g => ⟨RdI.st .i64 _ _ _ _ h.1 g, h.2⟩
  have s2 : StR (RdZ (RdR (RdZ (RdI .i64)))) := fun _ _ _ _ h g => ⟨RdR.st s1 _ _ _ _ h.1 g, h.2⟩
  have s3 : StR (RdZ (RdR (RdZ (RdR (RdZ (RdI .i64)))))) := fun _ _ _ _ h g => ⟨RdR.st s2 _ _ _ _ h.1 g, h.2⟩
  have S2 := hide s2
  have HXS : Hid (∀ W, w.grownBy W none → RdCz W (.agg #[vc]) X) := fun W g => by
    obtain ⟨v, e, h⟩ := hX
    exact ⟨v, e, s3 _ _ _ _ h g⟩
  have HT := hide hT
  have HS := hide hS
  obtain ⟨tO, tC, rfl⟩ : ∃ a c, vt = .slice a T.length c := by obtain ⟨a, c, e, _⟩ := hT.1; exact ⟨a, c, e⟩
  obtain ⟨cO, cC, rfl⟩ : ∃ a c, vc = .slice a X.length c := by
    obtain ⟨v, e, h⟩ := hX
    obtain ⟨a, c, e2, _⟩ := h.1
    have e3 : vc = v := by simpa using e
    exact ⟨a, c, e3.trans e2⟩
  obtain ⟨sO, sC, rfl⟩ : ∃ a c, vs = .slice a S.length c := by obtain ⟨a, c, e, _⟩ := hS.1; exact ⟨a, c, e⟩
  obtain ⟨tn, HTN⟩ : ∃ m, Hid (T.length = m) := ⟨_, rfl⟩
  obtain ⟨cn, HCN⟩ : ∃ m, Hid (X.length = m) := ⟨_, rfl⟩
  obtain ⟨sn, HSN⟩ : ∃ m, Hid (S.length = m) := ⟨_, rfl⟩
  rw [unhide HTN] at HT ⊢
  rw [unhide HCN] at HXS ⊢
  rw [unhide HSN] at HS ⊢
  clear s1 s2 s3 hT hX hS
  obtain ⟨W1, HW1⟩ : ∃ W1, Hid (w.alloc (.cells #[.int .i64 p, .int .i64 wd, .int .i64 ht, .int .i64 rs, .slice ao n cap, .slice tO tn tC, .slice cO cn cC, .int .i64 md, .slice sO sn sC, .slice no nn nc] 32) = W1) := ⟨_, rfl⟩
  have HB1 : Hid (W1.heap[w.heap.size]? = some (.cells #[.int .i64 p, .int .i64 wd, .int .i64 ht, .int .i64 rs, .slice ao n cap, .slice tO tn tC, .slice cO cn cC, .int .i64 md, .slice sO sn sC, .slice no nn nc] 32 (0, 0))) := by rw [← unhide HW1]; exact heap_alloc_new w _
  have HG1 : Hid (w.grownBy W1 none) := by rw [← unhide HW1]; exact World.grownBy_alloc _ _ _
  obtain ⟨r1, HR1⟩ : ∃ r : Int, Hid ((if (n : Int) ≤ 1048576 then 1048576 - (n : Int) else -1) = r) := ⟨_, rfl⟩
  go_enter Tryz.func4, Tryz.ntmps4
  go_wp2_with fail
  rw [unhide HW1]
  refine (szFrame p wd ht rs ao n cap 1048576 r1 W1 (by omega) (by omega) (by omega) HR1).mono ?_
  rintro e w1 ⟨rfl, g1⟩
  have HG2 := hide (grown_trans (unhide HG1) g1)
  have HB2 := hide (grown_atT g1 (unhide HB1) (by simp))
  clear g1 HW1 HB1 HG1
  by_cases h1 : r1 < 0
  · have d1 : decide (r1 < 0) = true := decide_eq_true h1
    go_wp2
    go_ret
    exact ⟨-1, rfl, fun h => absurd h (by omega), unhide HG2⟩
  have hn1 : (n : Int) ≤ 1048576 := by
    by_cases h : (n : Int) ≤ 1048576
    · exact h
    · have := unhide HR1; rw [if_neg h] at this; omega
  obtain ⟨l1, rfl⟩ := Int.eq_ofNat_of_zero_le (Int.not_lt.1 h1)
  have hl1 : l1 ≤ 1048576 := by have := unhide HR1; rw [if_pos hn1] at this; omega
  have d1 : decide ((l1 : Int) < 0) = false := decide_eq_false h1
  obtain ⟨c0, c1, c2, c3, c4, c5, c6, c7, c8, c9⟩ := cells10 (unhide HB2)
  go_wp2_with fail
  refine (szIntSSC w1 _ T l1 (unhide S2 _ _ _ _ (unhide HT) (unhide HG2)) hl1).mono ?_
  rintro e w2 ⟨rfl, rfl⟩
  by_cases h2' : l1 < szR lenI T
  · rw [if_neg (by omega)]
    go_wp2
    go_ret
    exact ⟨-1, rfl, fun h => absurd h (by omega), unhide HG2⟩
  have h2 : szR lenI T ≤ l1 := by omega
  rw [if_pos h2]
  obtain ⟨l2, HL2⟩ : ∃ l2 : Nat, Hid ((l1 : Int) - (szR lenI T : Nat) = (l2 : Int)) := ⟨l1 - szR lenI T, by unfold Hid; omega⟩
  rw [unhide HL2]
  have d2 : decide ((l2 : Int) < 0) = false := decide_eq_false (by omega)
  have hl2 : l2 ≤ 1048576 := by have := unhide HL2; omega
  obtain ⟨r3, HR3⟩ : ∃ r : Int, Hid ((if szCo X ≤ l2 then (l2 : Int) - szCo X else -1) = r) := ⟨_, rfl⟩
  go_wp2_with fail
  refine (szCoefsC w2 _ X l2 (unhide HXS _ (unhide HG2)) hl2 r3 HR3).mono ?_
  rintro e w3 ⟨rfl, g3⟩
  have HG3 := hide (grown_trans (unhide HG2) g3)
  have HB3 := hide (grown_atT g3 (unhide HB2) (by simp))
  clear g3 HB2 HG2 c0 c1 c2 c3 c4 c5 c6 c7 c8 c9
  by_cases h3 : r3 < 0
  · have d3 : decide (r3 < 0) = true := decide_eq_true h3
    go_wp2
    go_ret
    exact ⟨-1, rfl, fun h => absurd h (by omega), unhide HG3⟩
  have hx3 : szCo X ≤ l2 := by
    by_cases h : szCo X ≤ l2
    · exact h
    · have := unhide HR3; rw [if_neg h] at this; omega
  obtain ⟨l3, rfl⟩ := Int.eq_ofNat_of_zero_le (Int.not_lt.1 h3)
  have hl3 : l3 ≤ 1048576 := by have := unhide HR3; rw [if_pos hx3] at this; omega
  have d3 : decide ((l3 : Int) < 0) = false := decide_eq_false h3
  obtain ⟨c0, c1, c2, c3, c4, c5, c6, c7, c8, c9⟩ := cells10 (unhide HB3)
  obtain ⟨r4, HR4⟩ : ∃ r : Int, Hid ((if szR szSc S ≤ l3 then (l3 : Int) - szR szSc S else -1) = r) := ⟨_, rfl⟩
  go_wp2_with fail
  refine (szScanSC w3 _ S l3 ((unhide HS).st (unhide HG3)) hl3 r4 HR4).mono ?_
  rintro e w4 ⟨rfl, g4⟩
  have HG4 := hide (grown_trans (unhide HG3) g4)
  have HB4 := hide (grown_atT g4 (unhide HB3) (by simp))
  clear g4 HB3 HG3 c0 c1 c2 c3 c4 c5 c6 c7 c8 c9
  by_cases h4 : r4 < 0
  · have d4 : decide (r4 < 0) = true := decide_eq_true h4
    go_wp2
    go_ret
    exact ⟨-1, rfl, fun h => absurd h (by omega), unhide HG4⟩
  have hx4 : szR szSc S ≤ l3 := by
    by_cases h : szR szSc S ≤ l3
    · exact h
    · have := unhide HR4; rw [if_neg h] at this; omega
  have hl4 : r4 ≤ 1048576 := by have := unhide HR4; rw [if_pos hx4] at this; omega
  have d4 : decide (r4 < 0) = false := decide_eq_false h4
  obtain ⟨c0, c1, c2, c3, c4, c5, c6, c7, c8, c9⟩ := cells10 (unhide HB4)
  obtain ⟨r5, HR5⟩ : ∃ r : Int, Hid ((if (nn : Int) ≤ r4 then r4 - (nn : Int) else -1) = r) := ⟨_, rfl⟩
  go_wp2_with fail
  refine (szByteS no nn nc r4 r5 w4 (by omega) hl4 (by omega) HR5).mono ?_
  rintro e w5 ⟨rfl, rfl⟩
  by_cases h5 : r5 < 0
  · have d5 : decide (r5 < 0) = true := decide_eq_true h5
    go_wp2
    go_ret
    exact ⟨-1, rfl, fun h => absurd h (by omega), unhide HG4⟩
  have hx5 : (nn : Int) ≤ r4 := by
    by_cases h : (nn : Int) ≤ r4
    · exact h
    · have := unhide HR5; rw [if_neg h] at this; omega
  have d5 : decide (r5 < 0) = false := decide_eq_false h5
  go_wp2
  go_ret
  exact ⟨r5, rfl, fun _ => ⟨by omega, by omega, by omega, by omega, by omega⟩, unhide HG4⟩

structure To15 (w W : World) (ax X : Array Value) : Prop where
  ab : W.heap[w.heap.size]? = some (.cells ax 32 (0, 0))
  rb : W.heap[w.heap.size + 1]? = some (.cells #[.int .i64 0, .int .i64 0, .int .i64 0, .int .i64 0, .slice none 0 0, .slice none 0 0, .slice none 0 0, .int .i64 0, .slice none 0 0, .slice none 0 0] 41 (0, 0))
  ob : W.heap[w.heap.size + 1 + 1]? = some (.cells X 41 (0, 0))
  grown : w.grownBy W none
theorem To15.size {w W : World} {ax X : Array Value} (h : To15 w W ax X) : w.heap.size + 3 ≤ W.heap.size := (Array.getElem?_eq_some_iff.1 h.ob).1
theorem To15.new {w W W' : World} {ax X : Array Value} (h : To15 w W ax X) (g : W.grownBy W' none) : To15 w W' ax X := ⟨grown_atT g h.ab (by simp), grown_atT g h.rb (by simp), grown_atT g h.ob (by simp), grown_trans h.grown g⟩
theorem To15.put {w W W' : World} {ax X X' : Array Value} (h : To15 w W ax X) (g : W.grownBy W' (some (w.heap.size + 1 + 1))) (hb : W'.heap[w.heap.size + 1 + 1]? = some (.cells X' 41 (0, 0))) : To15 w W' ax X' :=
  ⟨grown_atT g h.ab (by simp; omega), grown_atT g h.rb (by simp), hb, grown_new h.grown g (fun x e => by have := Option.some.inj e; omega)⟩
theorem To15.set {w W : World} {ax X : Array Value} (h : To15 w W ax X) (j : Nat) (v : Value) (X' : Array Value) (e : X.setIfInBounds j v = X') : To15 w (W.setCell ⟨w.heap.size + 1 + 1, j, none⟩ v) ax X' :=
  h.put (grown_set W _ j v) (by rw [← e]; exact heap_setCell_same W _ j _ _ _ h.ob)
theorem To15.start (w : World) (ax : Array Value) : To15 w (((w.alloc (.cells ax 32)).alloc (.cells #[.int .i64 0, .int .i64 0, .int .i64 0, .int .i64 0, .slice none 0 0, .slice none 0 0, .slice none 0 0, .int .i64 0, .slice none 0 0, .slice none 0 0] 41)).alloc (.cells #[.int .i64 0, .int .i64 0, .int .i64 0, .int .i64 0, .slice none 0 0, .slice none 0 0, .slice none 0 0, .int .i64 0, .slice none 0 0, .slice none 0 0] 41)) ax #[.int .i64 0, .int .i64 0, .int .i64 0, .int .i64 0, .slice none 0 0, .slice none 0 0, .slice none 0 0, .int .i64 0, .slice none 0 0, .slice none 0 0] := by
  refine ⟨?_, ?_, ?_, grown_alloc (grown_alloc (grown_alloc (World.grownBy.refl _ _) _) _) _⟩
  · rw [Below.heap_alloc _ _ _ (by simp; omega), Below.heap_alloc _ _ _ (by simp)]
    exact heap_alloc_new w _
  · rw [Below.heap_alloc _ _ _ (by simp)]
    have := heap_alloc_new (w.alloc (.cells ax 32)) (.cells #[.int .i64 0, .int .i64 0, .int .i64 0, .int .i64 0, .slice none 0 0, .slice none 0 0, .slice none 0 0, .int .i64 0, .slice none 0 0, .slice none 0 0] 41)
    simpa using this
  · have := heap_alloc_new ((w.alloc (.cells ax 32)).alloc (.cells #[.int .i64 0, .int .i64 0, .int .i64 0, .int .i64 0, .slice none 0 0, .slice none 0 0, .slice none 0 0, .int .i64 0, .slice none 0 0, .slice none 0 0] 41)) (.cells #[.int .i64 0, .int .i64 0, .int .i64 0, .int .i64 0, .slice none 0 0, .slice none 0 0, .slice none 0 0, .int .i64 0, .slice none 0 0, .slice none 0 0] 41)
    simpa using this
/-- From block b on nothing was written. -/
def Up (b : Nat) (W W' : World) : Prop := W.heap.size ≤ W'.heap.size ∧ ∀ g, b ≤ g → g < W.heap.size → W'.heap[g]? = W.heap[g]?
theorem Up.trans {b : Nat} {A B C : World} (h : Up b A B) (g : Up b B C) : Up b A C := ⟨Nat.le_trans h.1 g.1, fun x hx hl => (g.2 x hx (Nat.lt_of_lt_of_le hl h.1)).trans (h.2 x hx hl)⟩
theorem Up.refl (b : Nat) (A : World) : Up b A A := ⟨Nat.le_refl _, fun _ _ _ => rfl⟩
theorem Up.of {b : Nat} {A B : World} {row : Option Nat} (g : A.grownBy B row) (h : ∀ x, row = some x → x < b) : Up b A B := ⟨g.size, fun x hx hl => g.block x hl (fun e => by have := h x e.symm; omega)⟩
theorem Up.own {α : Type} {P : World → Value → α → List Nat → Prop} (hP : OwOk P) {b : Nat} {A B : World} {u : Value} {a : α} {F : List Nat} (h : P A u a F) (hF : ∀ g ∈ F, b ≤ g) (g : Up b A B) : P B u a F := hP.same _ _ _ _ _ h (fun x hx => g.2 x (hF x hx) (hP.lt _ _ _ _ h x hx))
theorem Up.row {b base : Nat} {A B : World} {e : TypeId} {size n : Nat} {v : Value} {xs : List Value} (h : A.ownsRow base e size v n xs) (hb : b ≤ base) (g : Up b A B) : B.ownsRow base e size v n xs := own_sameAt h (fun x hx => g.2 x (Nat.le_trans hb (h.lt x hx).1) (h.lt x hx).2)

set_option maxRecDepth 20000 in
set_option maxHeartbeats 3200000 in
theorem toStream (p wd ht rs md : Int) (ao : Option Addr) (n cap : Nat) (C : Nat → Nat → Int) (vt : Value) (T : List (List Int)) (vc : Value) (X : List (List (List Int))) (vs : Value) (S : List Scn) (no : Option Addr) (nn nc : Nat) (zs : List Int) (w : World) (h : RdSt w ao n C vt T vc X vs S no nn zs) (hz : Sz15 n T X S nn) :
    Calls Tryz.prog 6 #[.agg #[.int .i64 p, .int .i64 wd, .int .i64 ht, .int .i64 rs, .slice ao n cap, vt, vc, .int .i64 md, vs, .slice no nn nc]] w fun e w' => ∃ ao' cap' vt' vc' vs' no' nc', e = .returned (.agg #[.int .i64 p, .int .i64 wd, .int .i64 ht, .int .i64 rs, .slice ao' n cap', vt', vc', .int .i64 md, vs', .slice no' nn nc']) ∧ RdSt w' ao' n C vt' T vc' X vs' S no' nn zs ∧ w.grownBy w' none := by
  have HRD := hide h
  have HZ := hide hz
  obtain ⟨tO, tC, rfl⟩ : ∃ a c, vt = .slice a T.length c := by obtain ⟨a, c, e, _⟩ := h.tb; exact ⟨a, c, e⟩
  obtain ⟨cO, cC, rfl⟩ : ∃ a c, vc = .slice a X.length c := by obtain ⟨a, c, e, _⟩ := h.co; exact ⟨a, c, e⟩
  obtain ⟨sO, sC, rfl⟩ : ∃ a c, vs = .slice a S.length c := by obtain ⟨a, c, e, _⟩ := h.sc; exact ⟨a, c, e⟩
  obtain ⟨tn, HTN⟩ : ∃ m, Hid (T.length = m) := ⟨_, rfl⟩
  obtain ⟨cn, HCN⟩ : ∃ m, Hid (X.length = m) := ⟨_, rfl⟩
  obtain ⟨sn, HSN⟩ : ∃ m, Hid (S.length = m) := ⟨_, rfl⟩
  rw [unhide HTN, unhide HCN, unhide HSN] at HRD ⊢
  clear h hz
  obtain ⟨v0, HW3⟩ : ∃ W3, Hid (((w.alloc (.cells #[.int .i64 p, .int .i64 wd, .int .i64 ht, .int .i64 rs, .slice ao n cap, .slice tO tn tC, .slice cO cn cC, .int .i64 md, .slice sO sn sC, .slice no nn nc] 32)).alloc (.cells #[.int .i64 0, .int .i64 0, .int .i64 0, .int .i64 0, .slice none 0 0, .slice none 0 0, .slice none 0 0, .int .i64 0, .slice none 0 0, .slice none 0 0] 41)).alloc (.cells #[.int .i64 0, .int .i64 0, .int .i64 0, .int .i64 0, .slice none 0 0, .slice none 0 0, .slice none 0 0, .int .i64 0, .slice none 0 0, .slice none 0 0] 41) = W3) := ⟨_, rfl⟩
  have K0 : Hid (To15 w v0 #[.int .i64 p, .int .i64 wd, .int .i64 ht, .int .i64 rs, .slice ao n cap, .slice tO tn tC, .slice cO cn cC, .int .i64 md, .slice sO sn sC, .slice no nn nc] #[.int .i64 0, .int .i64 0, .int .i64 0, .int .i64 0, .slice none 0 0, .slice none 0 0, .slice none 0 0, .int .i64 0, .slice none 0 0, .slice none 0 0]) := by rw [← unhide HW3]; exact To15.start w _
  obtain ⟨B, HBQ⟩ : ∃ B, Hid (w.heap.size + 3 = B) := ⟨_, rfl⟩
  go_enter Tryz.func6, Tryz.ntmps6
  go_wp2_with fail
  rw [unhide HW3]
  refine (toFrame p wd ht rs ao n cap C v0 ((unhide HRD).fr.grown (unhide K0).grown) (by have := (unhide HZ).fr; omega)).mono ?_
  rintro e w1 ⟨q, rfl, o1, g1⟩
  have J1 := hide ((unhide K0).new g1)
  have HO1 := hide o1
  have HL1 : Hid (B ≤ v0.heap.size) := by have := (unhide K0).size; have := unhide HBQ; unfold Hid; omega
  clear g1 K0 HW3 o1
  have hob := (unhide J1).ob
  go_wp2_with (refine wpList_store_part rfl 37 _ _ rfl (w.heap.size + 1 + 1) 0 rfl #[.int .i64 p, .int .i64 wd, .int .i64 ht, .int .i64 rs, .slice (some ⟨q, 0, none⟩) n n] rfl #[.int .i64 0, .int .i64 0, .int .i64 0, .int .i64 0, .slice none 0 0, .slice none 0 0, .slice none 0 0, .int .i64 0, .slice none 0 0, .slice none 0 0] 41 hob (by simp) (by kernel_rfl) (by simp [Value.oneCell']) ?_)
  intro v1 hb2 g2
  have K1 : Hid (To15 w v1 #[.int .i64 p, .int .i64 wd, .int .i64 ht, .int .i64 rs, .slice ao n cap, .slice tO tn tC, .slice cO cn cC, .int .i64 md, .slice sO sn sC, .slice no nn nc] #[.int .i64 p, .int .i64 wd, .int .i64 ht, .int .i64 rs, .slice (some ⟨q, 0, none⟩) n n, .slice none 0 0, .slice none 0 0, .int .i64 0, .slice none 0 0, .slice none 0 0]) := (unhide J1).put g2 (unhide hb2)
  have U1 : Hid (Up B w1 v1) := Up.of g2 (fun x e => by have := Option.some.inj e; have := unhide HBQ; omega)
  clear g2 hb2 hob J1
  obtain ⟨a0, a1, a2, a3, a4, a5, a6, a7, a8, a9⟩ := cells10 (unhide K1).ab
  go_wp2_with fail
  refine (toIntSSC v1 _ T (RdR.st (RdI.st .i64) _ _ _ _ (unhide HRD).tb (unhide K1).grown) (unhide HZ).tb).mono ?_
  rintro e w2 ⟨u2, F2, rfl, p2, n2, l2, g2⟩
  obtain ⟨tO2, tC2, rfl⟩ := p2.form
  rw [unhide HTN] at p2 ⊢
  have J2 := hide ((unhide K1).new g2)
  have V2 : Hid (Up B v1 w2) := Up.of g2 (by simp)
  have HP2 := hide p2
  have HF2 := hide l2
  clear p2 n2 l2 a0 a1 a2 a3 a4 a5 a6 a7 a8 a9
  have hzs := (unhide K1).size
  have HL2 : Hid (B ≤ v1.heap.size) := by have := unhide HBQ; unfold Hid; omega
  clear K1 g2 hzs
  obtain ⟨z0, z1, z2, z3, z4, z5, z6, z7, z8, z9⟩ := cells10 (unhide J2).ob
  have fz := frozen_of_row w2 _ 5 _ _ (unhide J2).ob
  obtain ⟨a0, a1, a2, a3, a4, a5, a6, a7, a8, a9⟩ := cells10 (unhide J2).ab
  have K2 : Hid (To15 w (w2.setCell ⟨w.heap.size + 1 + 1, 5, none⟩ (.slice tO2 tn tC2)) #[.int .i64 p, .int .i64 wd, .int .i64 ht, .int .i64 rs, .slice ao n cap, .slice tO tn tC, .slice cO cn cC, .int .i64 md, .slice sO sn sC, .slice no nn nc] #[.int .i64 p, .int .i64 wd, .int .i64 ht, .int .i64 rs, .slice (some ⟨q, 0, none⟩) n n, .slice tO2 tn tC2, .slice none 0 0, .int .i64 0, .slice none 0 0, .slice none 0 0]) := (unhide J2).set 5 _ _ rfl
  have U2 : Hid (Up B w2 (w2.setCell ⟨w.heap.size + 1 + 1, 5, none⟩ (.slice tO2 tn tC2))) := Up.of (grown_set _ _ _ _) (fun x e => by have := Option.some.inj e; have := unhide HBQ; omega)
  obtain ⟨b0, b1, b2, b3, b4, b5, b6, b7, b8, b9⟩ := cells10 (unhide K2).ab
  clear J2
  go_wp2_with fail
  generalize (w2.setCell ⟨w.heap.size + 1 + 1, 5, none⟩ (.slice tO2 tn tC2)) = v2 at *
  clear z0 z1 z2 z3 z4 z5 z6 z7 z8 z9 a0 a1 a2 a3 a4 a5 a6 a7 a8 a9 b0 b1 b2 b3 b4 b5 b6 b7 b8 b9 fz
  refine (toCoefsC v2 _ X ⟨_, rfl, st3 _ _ _ _ (unhide HRD).co (unhide K2).grown⟩ (unhide HZ).co).mono ?_
  rintro e w3 ⟨u3, F3, rfl, p3, n3, l3, g3⟩
  obtain ⟨uu, rfl, p3⟩ := p3
  obtain ⟨cO2, cC2, rfl⟩ := p3.form
  rw [unhide HCN] at p3 ⊢
  have J3 := hide ((unhide K2).new g3)
  have V3 : Hid (Up B v2 w3) := Up.of g3 (by simp)
  have HP3 := hide p3
  have HF3 := hide l3
  clear p3 n3 l3
  have hzs := (unhide K2).size
  have HL3 : Hid (B ≤ v2.heap.size) := by have := unhide HBQ; unfold Hid; omega
  clear K2 g3 hzs
  obtain ⟨z0, z1, z2, z3, z4, z5, z6, z7, z8, z9⟩ := cells10 (unhide J3).ob
  have fz := frozen_of_row w3 _ 6 _ _ (unhide J3).ob
  obtain ⟨a0, a1, a2, a3, a4, a5, a6, a7, a8, a9⟩ := cells10 (unhide J3).ab
  have K3 : Hid (To15 w (w3.setCell ⟨w.heap.size + 1 + 1, 6, none⟩ (.slice cO2 cn cC2)) #[.int .i64 p, .int .i64 wd, .int .i64 ht, .int .i64 rs, .slice ao n cap, .slice tO tn tC, .slice cO cn cC, .int .i64 md, .slice sO sn sC, .slice no nn nc] #[.int .i64 p, .int .i64 wd, .int .i64 ht, .int .i64 rs, .slice (some ⟨q, 0, none⟩) n n, .slice tO2 tn tC2, .slice cO2 cn cC2, .int .i64 0, .slice none 0 0, .slice none 0 0]) := (unhide J3).set 6 _ _ rfl
  have U3 : Hid (Up B w3 (w3.setCell ⟨w.heap.size + 1 + 1, 6, none⟩ (.slice cO2 cn cC2))) := Up.of (grown_set _ _ _ _) (fun x e => by have := Option.some.inj e; have := unhide HBQ; omega)
  obtain ⟨b0, b1, b2, b3, b4, b5, b6, b7, b8, b9⟩ := cells10 (unhide K3).ab
  clear J3
  obtain ⟨y0, y1, y2, y3, y4, y5, y6, y7, y8, y9⟩ := cells10 (unhide K3).ob
  have fy := frozen_of_row _ _ 7 _ _ (unhide K3).ob
  have K35 : Hid (To15 w ((w3.setCell ⟨w.heap.size + 1 + 1, 6, none⟩ (.slice cO2 cn cC2)).setCell ⟨w.heap.size + 1 + 1, 7, none⟩ (.int .i64 md)) #[.int .i64 p, .int .i64 wd, .int .i64 ht, .int .i64 rs, .slice ao n cap, .slice tO tn tC, .slice cO cn cC, .int .i64 md, .slice sO sn sC, .slice no nn nc] #[.int .i64 p, .int .i64 wd, .int .i64 ht, .int .i64 rs, .slice (some ⟨q, 0, none⟩) n n, .slice tO2 tn tC2, .slice cO2 cn cC2, .int .i64 md, .slice none 0 0, .slice none 0 0]) := (unhide K3).set 7 _ _ rfl
  have U35 : Hid (Up B (w3.setCell ⟨w.heap.size + 1 + 1, 6, none⟩ (.slice cO2 cn cC2)) ((w3.setCell ⟨w.heap.size + 1 + 1, 6, none⟩ (.slice cO2 cn cC2)).setCell ⟨w.heap.size + 1 + 1, 7, none⟩ (.int .i64 md))) := Up.of (grown_set _ _ _ _) (fun x e => by have := Option.some.inj e; have := unhide HBQ; omega)
  obtain ⟨d0, d1, d2, d3, d4, d5, d6, d7, d8, d9⟩ := cells10 (unhide K35).ab
  clear K3
  go_wp2_with fail
  generalize ((w3.setCell ⟨w.heap.size + 1 + 1, 6, none⟩ (.slice cO2 cn cC2)).setCell ⟨w.heap.size + 1 + 1, 7, none⟩ (.int .i64 md)) = v35 at *
  clear z0 z1 z2 z3 z4 z5 z6 z7 z8 z9 a0 a1 a2 a3 a4 a5 a6 a7 a8 a9 b0 b1 b2 b3 b4 b5 b6 b7 b8 b9 y0 y1 y2 y3 y4 y5 y6 y7 y8 y9 d0 d1 d2 d3 d4 d5 d6 d7 d8 d9 fz fy
  refine (toScanSC v35 _ S (RdSs.st _ _ _ _ (unhide HRD).sc (unhide K35).grown) (unhide HZ).sc).mono ?_
  rintro e w4 ⟨u4, F4, rfl, p4, n4, l4, g4⟩
  obtain ⟨sO2, sC2, rfl⟩ := OwG.form p4
  rw [unhide HSN] at p4 ⊢
  have J4 := hide ((unhide K35).new g4)
  have V4 : Hid (Up B v35 w4) := Up.of g4 (by simp)
  have HP4 := hide p4
  have HF4 := hide l4
  clear p4 n4 l4
  have hzs := (unhide K35).size
  have HL4 : Hid (B ≤ v35.heap.size) := by have := unhide HBQ; unfold Hid; omega
  clear K35 g4 hzs
  obtain ⟨z0, z1, z2, z3, z4, z5, z6, z7, z8, z9⟩ := cells10 (unhide J4).ob
  have fz := frozen_of_row w4 _ 8 _ _ (unhide J4).ob
  obtain ⟨a0, a1, a2, a3, a4, a5, a6, a7, a8, a9⟩ := cells10 (unhide J4).ab
  have K4 : Hid (To15 w (w4.setCell ⟨w.heap.size + 1 + 1, 8, none⟩ (.slice sO2 sn sC2)) #[.int .i64 p, .int .i64 wd, .int .i64 ht, .int .i64 rs, .slice ao n cap, .slice tO tn tC, .slice cO cn cC, .int .i64 md, .slice sO sn sC, .slice no nn nc] #[.int .i64 p, .int .i64 wd, .int .i64 ht, .int .i64 rs, .slice (some ⟨q, 0, none⟩) n n, .slice tO2 tn tC2, .slice cO2 cn cC2, .int .i64 md, .slice sO2 sn sC2, .slice none 0 0]) := (unhide J4).set 8 _ _ rfl
  have U4 : Hid (Up B w4 (w4.setCell ⟨w.heap.size + 1 + 1, 8, none⟩ (.slice sO2 sn sC2))) := Up.of (grown_set _ _ _ _) (fun x e => by have := Option.some.inj e; have := unhide HBQ; omega)
  obtain ⟨b0, b1, b2, b3, b4, b5, b6, b7, b8, b9⟩ := cells10 (unhide K4).ab
  clear J4
  go_wp2_with fail
  generalize (w4.setCell ⟨w.heap.size + 1 + 1, 8, none⟩ (.slice sO2 sn sC2)) = v4 at *
  clear z0 z1 z2 z3 z4 z5 z6 z7 z8 z9 a0 a1 a2 a3 a4 a5 a6 a7 a8 a9 b0 b1 b2 b3 b4 b5 b6 b7 b8 b9 fz
  refine (toByteS no nn nc zs v4 ((unhide HRD).nt.grown (unhide K4).grown) (by have := (unhide HZ).nt; omega)).mono ?_
  rintro e w5 ⟨rfl, o5, g5⟩
  have J5 := hide ((unhide K4).new g5)
  have V5 : Hid (Up B v4 w5) := Up.of g5 (by simp)
  have HO5 := hide o5
  clear o5
  have hzs := (unhide K4).size
  have HL5 : Hid (B ≤ v4.heap.size) := by have := unhide HBQ; unfold Hid; omega
  clear K4 g5 hzs
  obtain ⟨z0, z1, z2, z3, z4, z5, z6, z7, z8, z9⟩ := cells10 (unhide J5).ob
  have fz := frozen_of_row w5 _ 9 _ _ (unhide J5).ob
  obtain ⟨a0, a1, a2, a3, a4, a5, a6, a7, a8, a9⟩ := cells10 (unhide J5).ab
  have K5 : Hid (To15 w (w5.setCell ⟨w.heap.size + 1 + 1, 9, none⟩ (.slice (some ⟨v4.heap.size, 0, none⟩) nn nn)) #[.int .i64 p, .int .i64 wd, .int .i64 ht, .int .i64 rs, .slice ao n cap, .slice tO tn tC, .slice cO cn cC, .int .i64 md, .slice sO sn sC, .slice no nn nc] #[.int .i64 p, .int .i64 wd, .int .i64 ht, .int .i64 rs, .slice (some ⟨q, 0, none⟩) n n, .slice tO2 tn tC2, .slice cO2 cn cC2, .int .i64 md, .slice sO2 sn sC2, .slice (some ⟨v4.heap.size, 0, none⟩) nn nn]) := (unhide J5).set 9 _ _ rfl
  have U5 : Hid (Up B w5 (w5.setCell ⟨w.heap.size + 1 + 1, 9, none⟩ (.slice (some ⟨v4.heap.size, 0, none⟩) nn nn))) := Up.of (grown_set _ _ _ _) (fun x e => by have := Option.some.inj e; have := unhide HBQ; omega)
  obtain ⟨b0, b1, b2, b3, b4, b5, b6, b7, b8, b9⟩ := cells10 (unhide K5).ab
  clear J5
  have hob := (unhide K5).ob
  have hrb := (unhide K5).rb
  go_wp2_with (first | refine load_row rfl 41 _ rfl (w.heap.size + 1 + 1) rfl #[.int .i64 p, .int .i64 wd, .int .i64 ht, .int .i64 rs, .slice (some ⟨q, 0, none⟩) n n, .slice tO2 tn tC2, .slice cO2 cn cC2, .int .i64 md, .slice sO2 sn sC2, .slice (some ⟨v4.heap.size, 0, none⟩) nn nn] 41 hob _ Tryz.underlying41 rfl (by kernel_rfl) ?_ | refine store_row rfl 41 _ _ rfl (w.heap.size + 1) rfl #[.int .i64 p, .int .i64 wd, .int .i64 ht, .int .i64 rs, .slice (some ⟨q, 0, none⟩) n n, .slice tO2 tn tC2, .slice cO2 cn cC2, .int .i64 md, .slice sO2 sn sC2, .slice (some ⟨v4.heap.size, 0, none⟩) nn nn] rfl #[.int .i64 0, .int .i64 0, .int .i64 0, .int .i64 0, .slice none 0 0, .slice none 0 0, .slice none 0 0, .int .i64 0, .slice none 0 0, .slice none 0 0] 41 hrb rfl (by kernel_rfl) (by simp [Value.oneCell']) ?_)
  intro v6 hb6 g6
  have U6 : Hid (Up B (w5.setCell ⟨w.heap.size + 1 + 1, 9, none⟩ (.slice (some ⟨v4.heap.size, 0, none⟩) nn nn)) v6) := Up.of g6 (fun x e => by have := Option.some.inj e; have := unhide HBQ; omega)
  have HG : Hid (w.grownBy v6 none) := grown_new (unhide K5).grown g6 (fun x e => by have := Option.some.inj e; omega)
  clear hob hrb g6 z0 z1 z2 z3 z4 z5 z6 z7 z8 z9 a0 a1 a2 a3 a4 a5 a6 a7 a8 a9 b0 b1 b2 b3 b4 b5 b6 b7 b8 b9 fz K5
  go_wp2
  refine bodyPost_ret (v := .agg #[.int .i64 p, .int .i64 wd, .int .i64 ht, .int .i64 rs, .slice (some ⟨q, 0, none⟩) n n, .slice tO2 tn tC2, .slice cO2 cn cC2, .int .i64 md, .slice sO2 sn sC2, .slice (some ⟨v4.heap.size, 0, none⟩) nn nn]) ?_ rfl ?_
  · rw [results_cell1 rfl]
    exact run_loadVar_row (P := Tryz.prog) v6 (w.heap.size + 1) 41 41 _ (0, 0) _ hb6 Tryz.underlying41 rfl (by kernel_rfl)
  have u5 := (unhide U5).trans (unhide U6)
  have u4 := (unhide U4).trans ((unhide V5).trans u5)
  have u3 := (unhide U3).trans ((unhide U35).trans ((unhide V4).trans u4))
  have u2 := (unhide U2).trans ((unhide V3).trans u3)
  have u1 := (unhide U1).trans ((unhide V2).trans u2)
  refine ⟨_, _, _, _, _, _, _, rfl, ⟨own_rdC (Up.row (unhide HO1) (unhide HL1) u1), ?_, ?_, ?_, own_rd (Up.row (unhide HO5) (unhide HL5) u5)⟩, unhide HG⟩
  · exact Ow2.rd (Up.own ok2 (unhide HP2) (fun g hg => Nat.le_trans (unhide HL2) (unhide HF2 g hg)) u2)
  · exact Ow3.rd (Up.own ok3 (unhide HP3) (fun g hg => Nat.le_trans (unhide HL3) (unhide HF3 g hg)) u3)
  · exact OwSs.rd (Up.own OwSs.ok (unhide HP4) (fun g hg => Nat.le_trans (unhide HL4) (unhide HF4 g hg)) u4)

set_option maxRecDepth 20000 in
set_option maxHeartbeats 1600000 in
theorem eqStream (p wd ht rs md : Int) (ao : Option Addr) (n cap : Nat) (C : Nat → Nat → Int) (vt : Value) (T : List (List Int)) (vc : Value) (X : List (List (List Int))) (vs : Value) (S : List Scn) (no : Option Addr) (nn nc : Nat) (zs : List Int) (ao' : Option Addr) (cap' : Nat) (vt' vc' vs' : Value) (no' : Option Addr) (nc' : Nat) (w : World) (h : RdSt w ao n C vt T vc X vs S no nn zs) (h' : RdSt w ao' n C vt' T vc' X vs' S no' nn zs) (hz : Sz15 n T X S nn) :
    Calls Tryz.prog 8 #[.agg #[.int .i64 p, .int .i64 wd, .int .i64 ht, .int .i64 rs, .slice ao n cap, vt, vc, .int .i64 md, vs, .slice no nn nc], .agg #[.int .i64 p, .int .i64 wd, .int .i64 ht, .int .i64 rs, .slice ao' n cap', vt', vc', .int .i64 md, vs', .slice no' nn nc']] w fun e w' => e = .returned (.bool true) ∧ w.grownBy w' none := by
  have hmd : (md != md) = false := by simp
  have HA := hide h
  have HB := hide h'
  have HZ := hide hz
  obtain ⟨tO, tC, rfl⟩ : ∃ a c, vt = .slice a T.length c := by obtain ⟨a, c, e, _⟩ := h.tb; exact ⟨a, c, e⟩
  obtain ⟨cO, cC, rfl⟩ : ∃ a c, vc = .slice a X.length c := by obtain ⟨a, c, e, _⟩ := h.co; exact ⟨a, c, e⟩
  obtain ⟨sO, sC, rfl⟩ : ∃ a c, vs = .slice a S.length c := by obtain ⟨a, c, e, _⟩ := h.sc; exact ⟨a, c, e⟩
  obtain ⟨tO2, tC2, rfl⟩ : ∃ a c, vt' = .slice a T.length c := by obtain ⟨a, c, e, _⟩ := h'.tb; exact ⟨a, c, e⟩
  obtain ⟨cO2, cC2, rfl⟩ : ∃ a c, vc' = .slice a X.length c := by obtain ⟨a, c, e, _⟩ := h'.co; exact ⟨a, c, e⟩
  obtain ⟨sO2, sC2, rfl⟩ : ∃ a c, vs' = .slice a S.length c := by obtain ⟨a, c, e, _⟩ := h'.sc; exact ⟨a, c, e⟩
  obtain ⟨tn, HTN⟩ : ∃ m, Hid (T.length = m) := ⟨_, rfl⟩
  obtain ⟨cn, HCN⟩ : ∃ m, Hid (X.length = m) := ⟨_, rfl⟩
  obtain ⟨sn, HSN⟩ : ∃ m, Hid (S.length = m) := ⟨_, rfl⟩
  rw [unhide HTN, unhide HCN, unhide HSN] at HA HB ⊢
  clear h h' hz
  obtain ⟨W2, HW2⟩ : ∃ W2, Hid ((w.alloc (.cells #[.int .i64 p, .int .i64 wd, .int .i64 ht, .int .i64 rs, .slice ao n cap, .slice tO tn tC, .slice cO cn cC, .int .i64 md, .slice sO sn sC, .slice no nn nc] 41)).alloc (.cells #[.int .i64 p, .int .i64 wd, .int .i64 ht, .int .i64 rs, .slice ao' n cap', .slice tO2 tn tC2, .slice cO2 cn cC2, .int .i64 md, .slice sO2 sn sC2, .slice no' nn nc'] 41) = W2) := ⟨_, rfl⟩
  have G0 : Hid (w.grownBy W2 none) := by rw [← unhide HW2]; exact grown_alloc (World.grownBy_alloc _ _ _) _
  have B0 : Hid (W2.heap[w.heap.size]? = some (.cells #[.int .i64 p, .int .i64 wd, .int .i64 ht, .int .i64 rs, .slice ao n cap, .slice tO tn tC, .slice cO cn cC, .int .i64 md, .slice sO sn sC, .slice no nn nc] 41 (0, 0))) := by
    rw [← unhide HW2, Below.heap_alloc _ _ _ (by simp)]
    exact heap_alloc_new w _
  have C0 : Hid (W2.heap[w.heap.size + 1]? = some (.cells #[.int .i64 p, .int .i64 wd, .int .i64 ht, .int .i64 rs, .slice ao' n cap', .slice tO2 tn tC2, .slice cO2 cn cC2, .int .i64 md, .slice sO2 sn sC2, .slice no' nn nc'] 41 (0, 0))) := by
    rw [← unhide HW2]
    unfold Hid
    have := heap_alloc_new (w.alloc (.cells #[.int .i64 p, .int .i64 wd, .int .i64 ht, .int .i64 rs, .slice ao n cap, .slice tO tn tC, .slice cO cn cC, .int .i64 md, .slice sO sn sC, .slice no nn nc] 41)) (.cells #[.int .i64 p, .int .i64 wd, .int .i64 ht, .int .i64 rs, .slice ao' n cap', .slice tO2 tn tC2, .slice cO2 cn cC2, .int .i64 md, .slice sO2 sn sC2, .slice no' nn nc'] 41)
    simpa using this
  go_enter Tryz.func8, Tryz.ntmps8
  go_wp2_with fail
  rw [unhide HW2]
  refine (eqFrame p wd ht rs ao ao' n cap cap' C W2 ((unhide HA).fr.grown (unhide G0)) ((unhide HB).fr.grown (unhide G0)) (by have := (unhide HZ).fr; omega)).mono ?_
  rintro e w1 ⟨rfl, g1⟩
  clear HW2
  have G1 := hide (grown_trans (unhide G0) g1)
  have B1 := hide (grown_atT g1 (unhide B0) (by simp))
  have C1 := hide (grown_atT g1 (unhide C0) (by simp))
  clear g1 G0 B0 C0
  obtain ⟨a0, a1, a2, a3, a4, a5, a6, a7, a8, a9⟩ := cells10 (unhide B1)
  obtain ⟨b0, b1, b2, b3, b4, b5, b6, b7, b8, b9⟩ := cells10 (unhide C1)
  go_wp2_with fail
  refine (eqIntSSC w1 _ _ T (RdR.st (RdI.st .i64) _ _ _ _ (unhide HA).tb (unhide G1)) (RdR.st (RdI.st .i64) _ _ _ _ (unhide HB).tb (unhide G1)) (unhide HZ).tb).mono ?_
  rintro e w2 ⟨rfl, g2⟩
  clear a0 a1 a2 a3 a4 a5 a6 a7 a8 a9 b0 b1 b2 b3 b4 b5 b6 b7 b8 b9
  have G2 := hide (grown_trans (unhide G1) g2)
  have B2 := hide (grown_atT g2 (unhide B1) (by simp))
  have C2 := hide (grown_atT g2 (unhide C1) (by simp))
  clear g2 G1 B1 C1
  obtain ⟨a0, a1, a2, a3, a4, a5, a6, a7, a8, a9⟩ := cells10 (unhide B2)
  obtain ⟨b0, b1, b2, b3, b4, b5, b6, b7, b8, b9⟩ := cells10 (unhide C2)
  go_wp2_with fail
  refine (eqCoefsC w2 _ _ X ⟨_, rfl, st3 _ _ _ _ (unhide HA).co (unhide G2)⟩ ⟨_, rfl, st3 _ _ _ _ (unhide HB).co (unhide G2)⟩ (unhide HZ).co).mono ?_
  rintro e w3 ⟨rfl, g3⟩
  clear a0 a1 a2 a3 a4 a5 a6 a7 a8 a9 b0 b1 b2 b3 b4 b5 b6 b7 b8 b9
  have G3 := hide (grown_trans (unhide G2) g3)
  have B3 := hide (grown_atT g3 (unhide B2) (by simp))
  have C3 := hide (grown_atT g3 (unhide C2) (by simp))
  clear g3 G2 B2 C2
  obtain ⟨a0, a1, a2, a3, a4, a5, a6, a7, a8, a9⟩ := cells10 (unhide B3)
  obtain ⟨b0, b1, b2, b3, b4, b5, b6, b7, b8, b9⟩ := cells10 (unhide C3)
  go_wp2_with fail
  refine (eqScanSC w3 _ _ S (RdSs.st _ _ _ _ (unhide HA).sc (unhide G3)) (RdSs.st _ _ _ _ (unhide HB).sc (unhide G3)) (unhide HZ).sc).mono ?_
  rintro e w4 ⟨rfl, g4⟩
  clear a0 a1 a2 a3 a4 a5 a6 a7 a8 a9 b0 b1 b2 b3 b4 b5 b6 b7 b8 b9
  have G4 := hide (grown_trans (unhide G3) g4)
  have B4 := hide (grown_atT g4 (unhide B3) (by simp))
  have C4 := hide (grown_atT g4 (unhide C3) (by simp))
  clear g4 G3 B3 C3
  obtain ⟨a0, a1, a2, a3, a4, a5, a6, a7, a8, a9⟩ := cells10 (unhide B4)
  obtain ⟨b0, b1, b2, b3, b4, b5, b6, b7, b8, b9⟩ := cells10 (unhide C4)
  go_wp2_with fail
  refine (eqByteS no no' nn nc nc' zs w4 ((unhide HA).nt.grown (unhide G4)) ((unhide HB).nt.grown (unhide G4)) (by have := (unhide HZ).nt; omega)).mono ?_
  rintro e w5 ⟨rfl, g5⟩
  clear a0 a1 a2 a3 a4 a5 a6 a7 a8 a9 b0 b1 b2 b3 b4 b5 b6 b7 b8 b9
  have HF := hide (grown_trans (unhide G4) g5)
  clear g5 G4 B4 C4
  go_wp2
  go_ret
  exact ⟨rfl, unhide HF⟩

end Go.Proofs.YtjkokbijnaodnaaGreat

namespace Go.Proofs.YtjkokbijnaodnaaGreat
open Go.RowKit Go.ChangeShapes Go.WideShapes Go.Deep

theorem open_bytesB {H : Type} {enc : TypeId × Value → H} {W : World} {base : Nat} {spare : Nat → Bool} {held : Bool} {fuel : Nat} {u : Value} {x : DataW H × List MemPlace} (h : DataW.trod enc Tryz.prog W base spare held fuel 30 [u] = some x) :
    ∃ (ao : Option Addr) (n cap : Nat) (zs : List Int), u = .slice ao n cap ∧ Rd .u8 W ao n zs ∧ n ≤ maxLen ∧ ∀ x ∈ zs, 0 ≤ x ∧ x < 256 := by
  rcases open_ints Tryz.underlying30 Tryz.underlying5 (by kernel_rfl) h with ⟨hcs, _⟩ | ⟨x, l, c, zs, hcs, _, hl, hm, hz, _, hcell, hwz⟩
  · simp at hcs
    subst hcs
    exact ⟨none, 0, 0, [], rfl, ⟨rfl, fun i hi => absurd hi (by omega)⟩, by unfold maxLen; omega, by simp⟩
  · simp at hcs
    subst hcs
    exact ⟨some x, l, c, _, rfl, rd_of_row (cap := zs.length) (by rw [hz]; split <;> omega) rfl hcell, by omega, fun q hq => by have := bounds_u8 (hwz q (List.mem_of_mem_take hq)); omega⟩

set_option maxRecDepth 100000 in
theorem stream_openB {H : Type} {enc : TypeId × Value → H} {W : World} {base b0 : Nat} {spare : Nat → Bool} {held : Bool} {r : Reach} {v : Value} {d : DataW H} {ps : List MemPlace}
    (hv : Value.okWide Tryz.prog W r b0 32 v) (h : DataW.Trod enc Tryz.prog W base spare held 32 v d ps) :
    ∃ (p wd ht rs md : Int) (ao : Option Addr) (n cap : Nat) (C : Nat → Nat → Int) (vt : Value) (T : List (List Int)) (vc : Value) (X : List (List (List Int))) (vs : Value) (S : List Scn) (no : Option Addr) (nn nc : Nat) (zs : List Int),
      v = .agg #[.int .i64 p, .int .i64 wd, .int .i64 ht, .int .i64 rs, .slice ao n cap, vt, vc, .int .i64 md, vs, .slice no nn nc] ∧ RdSt W ao n C vt T vc X vs S no nn zs ∧ n ≤ maxLen ∧ RdZ (RdR (RdZ (RdI .i64))) W vt T ∧ RdCz W (.agg #[vc]) X ∧ RdSsZ W vs S ∧ nn ≤ maxLen ∧ ∀ x ∈ zs, 0 ≤ x ∧ x < 256 := by
  obtain ⟨cs, rfl, hsz⟩ := okWide_struct Tryz.underlying32 hv
  have hc10 : cs.size = 10 := by rw [hsz]; kernel_rfl
  have ci : Tryz.prog.cellsOf 3 = 1 := by kernel_rfl
  have cf : Tryz.prog.cellsOf 24 = 5 := by kernel_rfl
  have ct : Tryz.prog.cellsOf 25 = 1 := by kernel_rfl
  have cc : Tryz.prog.cellsOf 28 = 1 := by kernel_rfl
  have cx : Tryz.prog.cellsOf 26 = 1 := by kernel_rfl
  have cs' : Tryz.prog.cellsOf 29 = 1 := by kernel_rfl
  have cb : Tryz.prog.cellsOf 30 = 1 := by kernel_rfl
  obtain ⟨l⟩ := cs
  match l, hc10 with
  | [a0, a1, a2, a3, a4, a5, a6, a7, a8, a9], _ =>
    obtain ⟨fuel, hf⟩ := h
    obtain ⟨xs, n, _, _, hl, hlen, hfld⟩ := DataW.trod_struct Tryz.underlying32 hf
    obtain ⟨y0, y1, y2, y3, y4, y5, rfl⟩ : ∃ y0 y1 y2 y3 y4 y5, xs = [y0, y1, y2, y3, y4, y5] := by
      match xs, hlen with
      | [y0, y1, y2, y3, y4, y5], _ => exact ⟨y0, y1, y2, y3, y4, y5, rfl⟩
    have g0 := hfld 0 _ rfl
    have g1 := hfld 1 _ rfl
    have g2 := hfld 2 _ rfl
    have g3 := hfld 3 _ rfl
    have g4 := hfld 4 _ rfl
    have g5 := hfld 5 _ rfl
    simp [ci, cf, ct, cc, cs', cb, Value.cells] at g0 g1 g2 g3 g4 g5
    obtain ⟨p, wd, ht, rs, ao, m, cap, C, rfl, rfl, rfl, rfl, rfl, hC, hm⟩ := frame_cells g0
    obtain ⟨T, hT⟩ := open_ints2 H enc W base spare held n a5 y1 g1
    obtain ⟨zs2, n2, _, _, _, hlen2, hfld2⟩ := DataW.trod_struct Tryz.underlying28 g2
    obtain ⟨q0, rfl⟩ : ∃ q0, zs2 = [q0] := by
      match zs2, hlen2 with
      | [q0], _ => exact ⟨q0, rfl⟩
    have k0 := hfld2 0 _ rfl
    simp [cx] at k0
    obtain ⟨X, hX⟩ := open_ints3 H enc W base spare held n2 a6 q0 k0
    obtain ⟨md, e7, _, _⟩ := DataW.trod_int Tryz.underlying3 g3
    simp at e7
    subst e7
    have hsl : ∃ a l c, a8 = .slice a l c := by
      rcases open_slice Tryz.underlying29 g4 with ⟨hcs, _⟩ | ⟨a, len, cap, m', k, D, Pl, hcs, _, _⟩
      · simp at hcs
        exact ⟨_, _, _, hcs⟩
      · simp at hcs
        exact ⟨_, _, _, hcs⟩
    obtain ⟨S, hS⟩ := scans_open ⟨n, by obtain ⟨a, l, c, rfl⟩ := hsl; exact g4⟩ hsl
    obtain ⟨no, nn, nc, zs, rfl, hZ, hnn, hzb⟩ := open_bytesB g5
    refine ⟨p, wd, ht, rs, md, ao, m, cap, C, a5, T, a6, X, a8, S, no, nn, nc, zs, rfl, ⟨hC, ?_, ?_, hS.rd, hZ⟩, hm, hT, ⟨a6, rfl, hX⟩, hS, hnn, hzb⟩
    · exact RdR.imp (fun _ _ _ h => h.1) hT.1
    · exact RdR.imp (fun _ _ _ h => RdR.imp (fun _ _ _ h => h.1) h.1) hX.1
end Go.Proofs.YtjkokbijnaodnaaGreat

namespace Go.Proofs.YtjkokbijnaodnaaGreat
open Go.RowKit

theorem take_both {α : Type} {xs ys : List α} {k : Nat} (h1 : k < xs.length) (h2 : k < ys.length) (h : xs.take k = ys.take k) (e : xs[k] = ys[k]) : xs.take (k + 1) = ys.take (k + 1) := by
  rw [List.take_succ_eq_append_getElem h1, List.take_succ_eq_append_getElem h2, h, e]
theorem ne_at {α : Type} {xs ys : List α} {k : Nat} (h1 : k < xs.length) (h2 : k < ys.length) (e : ¬ xs[k] = ys[k]) : xs ≠ ys := fun h => by subst h; exact e rfl
theorem all_same {α : Type} {xs ys : List α} {n : Nat} (h1 : xs.length = n) (h2 : ys.length = n) (h : xs.take n = ys.take n) : xs = ys := by
  rw [List.take_of_length_le (by omega), List.take_of_length_le (by omega)] at h
  exact h

set_option maxRecDepth 20000 in
set_option maxHeartbeats 1600000 in
theorem specBytes19 (ao : Option Addr) (n ca : Nat) (xs : List Int) (bo : Option Addr) (m cb : Nat) (ys : List Int) (w : World) (ha : Rd .u8 w ao n xs) (hb : Rd .u8 w bo m ys) (hn : n ≤ 1048576) (t : Bool) (HT : Hid (decide (xs = ys) = t)) :
    Calls Tryz.prog 16 #[.slice ao n ca, .slice bo m cb] w fun e w' => e = .returned (.bool t) ∧ w.grownBy w' none := by
  have HL1 := hide ha.1
  have HL2 := hide hb.1
  have HA := hide ha
  have HB := hide hb
  clear ha hb
  by_cases hnm : n = m
  · subst hnm
    have hnn : ((n : Int) != (n : Int)) = false := by simp
    go_enter Tryz.func16, Tryz.ntmps16
    go_wp2
    go_loopw [5] (fun i wr => ∃ k : Nat, k ≤ n ∧ i = .int .i64 k ∧ Hid (xs.take k = ys.take k) ∧ Hid (w.grownBy wr none)) (fun i _ => n - (intOf i).toNat)
    case atStart => exact ⟨0, Nat.zero_le _, rfl, rfl, World.grownBy.refl _ _⟩
    case round =>
      obtain ⟨k, hk, rfl, HTK, HG⟩ := hrel
      by_cases hlt : k < n
      · obtain ⟨rb, roff, rfl, a0⟩ := ((unhide HA).grown (unhide HG)).2 k hlt
        obtain ⟨ib, ioff, rfl, c0⟩ := ((unhide HB).grown (unhide HG)).2 k hlt
        have h1 : k < xs.length := by have := unhide HL1; omega
        have h2 : k < ys.length := by have := unhide HL2; omega
        have HEQ : Hid (xs.getD k 0 = ys.getD k 0 → xs.take (k + 1) = ys.take (k + 1)) := fun e => take_both h1 h2 (unhide HTK) (by simpa [h1, h2] using e)
        have HNE : Hid (¬ xs.getD k 0 = ys.getD k 0 → t = false) := fun e => by rw [← unhide HT]; exact decide_eq_false (ne_at h1 h2 (by simpa [h1, h2] using e))
        generalize xs.getD k 0 = x at *
        generalize ys.getD k 0 = y at *
        have hkI : (k : Int) < (n : Int) := by omega
        have k1 := i64_in ((k : Int) + 1) (by omega)
        clear HTK h1 h2
        cases he : (x != y) with
        | true =>
          have ht := unhide HNE (by simpa using he)
          go_wp2
          go_quiet (fail)
          go_wp2
          go_ret
          exact ⟨ret_bool ht.symm, grown_drewN (unhide HG) _⟩
        | false =>
          have HT1 := hide (unhide HEQ (by simpa using he))
          go_wp2
          go_quiet (fail)
          go_wp2
          go_roundw
          case rel => exact ⟨k + 1, by omega, by go_num, HT1, grown_drewN (unhide HG) _⟩
          case measure => simp [intOf]; omega
      · obtain rfl : k = n := by omega
        obtain rfl : t = true := by rw [← unhide HT]; exact decide_eq_true (all_same (unhide HL1) (unhide HL2) (unhide HTK))
        go_wp2
        go_ret
        exact ⟨rfl, unhide HG⟩
  · have hnn : ((n : Int) != (m : Int)) = true := by simp; omega
    obtain rfl : t = false := by
      rw [← unhide HT]
      exact decide_eq_false (fun e => hnm (by rw [← unhide HL1, ← unhide HL2, e]))
    go_enter Tryz.func16, Tryz.ntmps16
    go_wp2
    go_ret
    exact ⟨rfl, World.grownBy.refl _ _⟩

set_option maxRecDepth 20000 in
set_option maxHeartbeats 1600000 in
theorem specLists19 (va vb : Value) (A B : List (List Int)) (w : World) (ha : Rd2 w va A) (hb : Rd2 w vb B) (hs : szR lenI A ≤ 1048576) (t : Bool) (HT : Hid (decide (A = B) = t)) :
    Calls Tryz.prog 15 #[va, vb] w fun e w' => e = .returned (.bool t) ∧ w.grownBy w' none := by
  obtain ⟨ao, ca, rfl, hel⟩ := ha
  obtain ⟨bo, cb, rfl, hel'⟩ := hb
  have HEA := hide hel
  have HEB := hide hel'
  have hlen := szR_len lenI A
  have HSE : Hid (∀ i (h : i < A.length), A[i].length ≤ 1048576) := fun i h => Nat.le_trans (show lenI A[i] ≤ szR lenI A from (szR_el lenI A i h).2) hs
  obtain ⟨n, HN⟩ : ∃ n, Hid (A.length = n) := ⟨_, rfl⟩
  obtain ⟨m, HM⟩ : ∃ m, Hid (B.length = m) := ⟨_, rfl⟩
  have hn : n ≤ 1048576 := by have := unhide HN; omega
  rw [unhide HN, unhide HM]
  clear hel hel' hlen hs
  by_cases hnm : n = m
  · subst hnm
    have hnn : ((n : Int) != (n : Int)) = false := by simp
    go_enter Tryz.func15, Tryz.ntmps15
    go_wp2
    go_loopw [5] (fun i wr => ∃ k : Nat, k ≤ n ∧ i = .int .i64 k ∧ Hid (A.take k = B.take k) ∧ Hid (w.grownBy wr none)) (fun i _ => n - (intOf i).toNat)
    case atStart => exact ⟨0, Nat.zero_le _, rfl, rfl, World.grownBy.refl _ _⟩
    case round =>
      obtain ⟨k, hk, rfl, HTK, HG⟩ := hrel
      by_cases hlt : k < n
      · have h1 : k < A.length := by have := unhide HN; omega
        have h2 : k < B.length := by have := unhide HM; omega
        obtain ⟨rb, roff, u, rfl, a0, q0⟩ := unhide HEA k h1
        obtain ⟨ib, ioff, u', rfl, c0, q1⟩ := unhide HEB k h2
        obtain ⟨uo, uc, rfl, hu⟩ := q0
        obtain ⟨uo', uc', rfl, hu'⟩ := q1
        have HEQ : Hid (A[k] = B[k] → A.take (k + 1) = B.take (k + 1)) := fun e => take_both h1 h2 (unhide HTK) e
        have HNE : Hid (¬ A[k] = B[k] → t = false) := fun e => by rw [← unhide HT]; exact decide_eq_false (ne_at h1 h2 e)
        have hl1 : A[k].length ≤ 1048576 := unhide HSE k h1
        have HL1 := hide hu.1
        have HL2 := hide hu'.1
        generalize A[k] = xs at *
        generalize B[k] = ys at *
        obtain ⟨l, HXL⟩ : ∃ l, Hid (xs.length = l) := ⟨_, rfl⟩
        obtain ⟨l', HYL⟩ : ∃ l, Hid (ys.length = l) := ⟨_, rfl⟩
        rw [unhide HXL] at a0 hu hl1
        rw [unhide HYL] at c0 hu'
        have HU := hide hu
        have HU' := hide hu'
        have hkI : (k : Int) < (n : Int) := by omega
        have k1 := i64_in ((k : Int) + 1) (by omega)
        have d0 := (unhide HG).cell a0 (by simp)
        have d1 := (unhide HG).cell c0 (by simp)
        clear HTK h1 h2 hu hu'
        by_cases hll : l = l'
        · subst hll
          have hne : ((l : Int) != (l : Int)) = false := by simp
          have HDC := hide (And.intro a0 c0)
          go_wp2
          go_quiet (fail)
          clear d0 d1 a0 c0
          go_wp2
          go_loopw [6] (fun i wr => ∃ j : Nat, j ≤ l ∧ i = .int .i64 j ∧ Hid (xs.take j = ys.take j) ∧ Hid (w.grownBy wr none)) (fun i _ => l - (intOf i).toNat)
          case atStart => exact ⟨0, Nat.zero_le _, rfl, rfl, grown_drewN (unhide HG) _⟩
          case round =>
            clear HG
            obtain ⟨j, hj, rfl, HTJ, HG⟩ := hrel
            have d0 := (unhide HG).cell (unhide HDC).1 (by simp)
            have d1 := (unhide HG).cell (unhide HDC).2 (by simp)
            by_cases hjl : j < l
            · have h3 : j < xs.length := by have := unhide HXL; omega
              have h4 : j < ys.length := by have := unhide HYL; omega
              obtain ⟨rb, roff, e1, a0⟩ := ((unhide HU).grown (unhide HG)).2 j hjl
              obtain ⟨ib, ioff, e2, c0⟩ := ((unhide HU').grown (unhide HG)).2 j hjl
              subst e1
              subst e2
              have HEQ2 : Hid (xs.getD j 0 = ys.getD j 0 → xs.take (j + 1) = ys.take (j + 1)) := fun e => take_both h3 h4 (unhide HTJ) (by simpa [h3, h4] using e)
              have HNE2 : Hid (¬ xs.getD j 0 = ys.getD j 0 → t = false) := fun e => unhide HNE (ne_at h3 h4 (by simpa [h3, h4] using e))
              generalize xs.getD j 0 = x at *
              generalize ys.getD j 0 = y at *
              have hjI : (j : Int) < (l : Int) := by omega
              have j1 := i64_in ((j : Int) + 1) (by omega)
              clear HTJ h3 h4
              cases he : (x != y) with
              | true =>
                have ht := unhide HNE2 (by simpa using he)
                go_wp2
                go_quiet (fail)
                go_wp2
                go_ret
                exact ⟨ret_bool ht.symm, grown_drewN (unhide HG) _⟩
              | false =>
                have HT1 := hide (unhide HEQ2 (by simpa using he))
                go_wp2
                go_quiet (fail)
                go_wp2
                go_roundw
                case rel => exact ⟨j + 1, by omega, by go_num, HT1, grown_drewN (unhide HG) _⟩
                case measure => simp [intOf]; omega
            · obtain rfl : j = l := by omega
              have HT1 := hide (unhide HEQ (all_same (unhide HXL) (unhide HYL) (unhide HTJ)))
              go_wp2
              go_roundw
              case rel => exact ⟨k + 1, by omega, by go_num, HT1, HG⟩
              case measure => simp [intOf]; omega
        · have hne : ((l : Int) != (l' : Int)) = true := by simp; omega
          have ht := unhide HNE (fun e => hll (by rw [← unhide HXL, ← unhide HYL, e]))
          go_wp2
          go_quiet (fail)
          go_wp2
          go_ret
          exact ⟨ret_bool ht.symm, grown_drewN (unhide HG) _⟩
      · obtain rfl : k = n := by omega
        obtain rfl : t = true := by rw [← unhide HT]; exact decide_eq_true (all_same (unhide HN) (unhide HM) (unhide HTK))
        go_wp2
        go_ret
        exact ⟨rfl, unhide HG⟩
  · have hnn : ((n : Int) != (m : Int)) = true := by simp; omega
    obtain rfl : t = false := by
      rw [← unhide HT]
      exact decide_eq_false (fun e => hnm (by rw [← unhide HN, ← unhide HM, e]))
    go_enter Tryz.func15, Tryz.ntmps15
    go_wp2
    go_ret
    exact ⟨rfl, World.grownBy.refl _ _⟩
end Go.Proofs.YtjkokbijnaodnaaGreat

namespace Go.Proofs.YtjkokbijnaodnaaGreat
open Go.RowKit

set_option maxRecDepth 20000 in
set_option maxHeartbeats 1600000 in
theorem equalInts (ao : Option Addr) (n ca : Nat) (xs : List Int) (bo : Option Addr) (m cb : Nat) (ys : List Int) (w : World) (ha : Rd .i64 w ao n xs) (hb : Rd .i64 w bo m ys) (hn : n ≤ 1048576) (t : Bool) (HT : Hid (decide (xs = ys) = t)) :
    Calls Tryz.prog 53 #[.slice ao n ca, .slice bo m cb] w fun e w' => e = .returned (.bool t) ∧ w.grownBy w' none := by
  have HL1 := hide ha.1
  have HL2 := hide hb.1
  have HA := hide ha
  have HB := hide hb
  clear ha hb
  by_cases hnm : n = m
  · subst hnm
    have hnn : ((n : Int) != (n : Int)) = false := by simp
    go_enter Tryz.func53, Tryz.ntmps53
    go_wp2
    go_loopw [13] (fun i wr => ∃ k : Nat, k ≤ n ∧ i = .int .i64 k ∧ Hid (xs.take k = ys.take k) ∧ Hid (w.grownBy wr none)) (fun i _ => n - (intOf i).toNat)
    case atStart => exact ⟨0, Nat.zero_le _, rfl, rfl, World.grownBy.refl _ _⟩
    case round =>
      obtain ⟨k, hk, rfl, HTK, HG⟩ := hrel
      by_cases hlt : k < n
      · obtain ⟨rb, roff, rfl, a0⟩ := ((unhide HA).grown (unhide HG)).2 k hlt
        obtain ⟨ib, ioff, rfl, c0⟩ := ((unhide HB).grown (unhide HG)).2 k hlt
        have h1 : k < xs.length := by have := unhide HL1; omega
        have h2 : k < ys.length := by have := unhide HL2; omega
        have HEQ : Hid (xs.getD k 0 = ys.getD k 0 → xs.take (k + 1) = ys.take (k + 1)) := fun e => take_both h1 h2 (unhide HTK) (by simpa [h1, h2] using e)
        have HNE : Hid (¬ xs.getD k 0 = ys.getD k 0 → t = false) := fun e => by rw [← unhide HT]; exact decide_eq_false (ne_at h1 h2 (by simpa [h1, h2] using e))
        generalize xs.getD k 0 = x at *
        generalize ys.getD k 0 = y at *
        have hkI : (k : Int) < (n : Int) := by omega
        have k1 := i64_in ((k : Int) + 1) (by omega)
        clear HTK h1 h2
        cases he : (x != y) with
        | true =>
          have ht := unhide HNE (by simpa using he)
          go_wp2
          go_quiet (fail)
          go_wp2
          go_ret
          exact ⟨ret_bool ht.symm, grown_drewN (unhide HG) _⟩
        | false =>
          have HT1 := hide (unhide HEQ (by simpa using he))
          go_wp2
          go_quiet (fail)
          go_wp2
          go_roundw
          case rel => exact ⟨k + 1, by omega, by go_num, HT1, grown_drewN (unhide HG) _⟩
          case measure => simp [intOf]; omega
      · obtain rfl : k = n := by omega
        obtain rfl : t = true := by rw [← unhide HT]; exact decide_eq_true (all_same (unhide HL1) (unhide HL2) (unhide HTK))
        go_wp2
        go_ret
        exact ⟨rfl, unhide HG⟩
  · have hnn : ((n : Int) != (m : Int)) = true := by simp; omega
    obtain rfl : t = false := by
      rw [← unhide HT]
      exact decide_eq_false (fun e => hnm (by rw [← unhide HL1, ← unhide HL2, e]))
    go_enter Tryz.func53, Tryz.ntmps53
    go_wp2
    go_ret
    exact ⟨rfl, World.grownBy.refl _ _⟩

set_option maxRecDepth 20000 in
set_option maxHeartbeats 1600000 in
theorem equalLists (va vb : Value) (A B : List (List Int)) (w : World) (ha : Rd2 w va A) (hb : Rd2 w vb B) (hs : szR lenI A ≤ 1048576) (t : Bool) (HT : Hid (decide (A = B) = t)) :
    Calls Tryz.prog 52 #[va, vb, .func (.func 53) #[] #[]] w fun e w' => e = .returned (.bool t) ∧ w.grownBy w' none := by
  obtain ⟨ao, ca, rfl, hel⟩ := ha
  obtain ⟨bo, cb, rfl, hel'⟩ := hb
  have HEA := hide hel
  have HEB := hide hel'
  have hlen := szR_len (lenI) A
  have HSE : Hid (∀ i (h : i < A.length), lenI A[i] ≤ 1048576) := fun i h => Nat.le_trans (szR_el (lenI) A i h).2 hs
  obtain ⟨n, HN⟩ : ∃ n, Hid (A.length = n) := ⟨_, rfl⟩
  obtain ⟨m, HM⟩ : ∃ m, Hid (B.length = m) := ⟨_, rfl⟩
  have hn : n ≤ 1048576 := by have := unhide HN; have : A.length ≤ szR lenI A := hlen; omega
  rw [unhide HN, unhide HM]
  clear hel hel' hlen hs
  by_cases hnm : n = m
  · subst hnm
    have hnn : ((n : Int) != (n : Int)) = false := by simp
    go_enter Tryz.func52, Tryz.ntmps52
    go_wp2
    go_loopw [17] (fun i wr => ∃ k : Nat, k ≤ n ∧ i = .int .i64 k ∧ Hid (A.take k = B.take k) ∧ Hid (w.grownBy wr none)) (fun i _ => n - (intOf i).toNat)
    case atStart => exact ⟨0, Nat.zero_le _, rfl, rfl, World.grownBy.refl _ _⟩
    case round =>
      obtain ⟨k, hk, rfl, HTK, HG⟩ := hrel
      by_cases hlt : k < n
      · have h1 : k < A.length := by have := unhide HN; omega
        have h2 : k < B.length := by have := unhide HM; omega
        obtain ⟨rb, roff, u, rfl, a0, q0⟩ := unhide HEA k h1
        obtain ⟨ib, ioff, u', rfl, c0, q1⟩ := unhide HEB k h2
        obtain ⟨uo, uc, rfl, q0⟩ := q0
        obtain ⟨uo', uc', rfl, q1⟩ := q1
        have HEQ : Hid (A[k] = B[k] → A.take (k + 1) = B.take (k + 1)) := fun e => take_both h1 h2 (unhide HTK) e
        have HNE : Hid (¬ A[k] = B[k] → t = false) := fun e => by rw [← unhide HT]; exact decide_eq_false (ne_at h1 h2 e)
        have HSK := hide (unhide HSE k h1)
        generalize A[k] = xs at *
        generalize B[k] = ys at *
        have HQ0 := hide q0
        have HQ1 := hide q1
        have hkI : (k : Int) < (n : Int) := by omega
        have k1 := i64_in ((k : Int) + 1) (by omega)
        have d0 := (unhide HG).cell a0 (by simp)
        have d1 := (unhide HG).cell c0 (by simp)
        obtain ⟨y, HY⟩ : ∃ y, Hid (decide (xs = ys) = y) := ⟨_, rfl⟩
        clear HTK h1 h2 q0 q1 a0 c0
        go_wp2_with fail
        refine (equalInts uo xs.length uc xs uo' ys.length uc' ys _ ((unhide HQ0).grown (unhide HG)) ((unhide HQ1).grown (unhide HG)) (unhide HSK) y HY).mono ?_
        rintro e w1 ⟨rfl, g1⟩
        have HG1 := hide (grown_trans (unhide HG) g1)
        clear g1 d0 d1 HG HQ0 HQ1
        cases y with
        | false =>
          have ht := unhide HNE (of_decide_eq_false (unhide HY))
          go_wp2
          go_ret
          exact ⟨ret_bool ht.symm, unhide HG1⟩
        | true =>
          have HT1 := hide (unhide HEQ (of_decide_eq_true (unhide HY)))
          go_wp2
          go_roundw
          case rel => exact ⟨k + 1, by omega, by go_num, HT1, HG1⟩
          case measure => simp [intOf]; omega
      · obtain rfl : k = n := by omega
        obtain rfl : t = true := by rw [← unhide HT]; exact decide_eq_true (all_same (unhide HN) (unhide HM) (unhide HTK))
        go_wp2
        go_ret
        exact ⟨rfl, unhide HG⟩
  · have hnn : ((n : Int) != (m : Int)) = true := by simp; omega
    obtain rfl : t = false := by
      rw [← unhide HT]
      exact decide_eq_false (fun e => hnm (by rw [← unhide HN, ← unhide HM, e]))
    go_enter Tryz.func52, Tryz.ntmps52
    go_wp2
    go_ret
    exact ⟨rfl, World.grownBy.refl _ _⟩

theorem implLists19 (va vb : Value) (A B : List (List Int)) (w : World) (ha : Rd2 w va A) (hb : Rd2 w vb B) (hs : szR lenI A ≤ 1048576) (t : Bool) (HT : Hid (decide (A = B) = t)) :
    Calls Tryz.prog 24 #[va, vb] w fun e w' => e = .returned (.bool t) ∧ w.grownBy w' none := by
  have HC := hide (equalLists va vb A B w ha hb hs t HT)
  clear ha hb
  go_enter Tryz.func24, Tryz.ntmps24
  go_wp2_with fail
  refine (unhide HC).mono ?_
  rintro e w1 ⟨rfl, g1⟩
  go_wp2
  go_ret
  exact ⟨rfl, g1⟩

set_option maxRecDepth 20000 in
set_option maxHeartbeats 1600000 in
theorem equalPlanes (va vb : Value) (A B : List (List (List Int))) (w : World) (ha : Rd3 w va A) (hb : Rd3 w vb B) (hs : szCo A ≤ 1048576) (t : Bool) (HT : Hid (decide (A = B) = t)) :
    Calls Tryz.prog 54 #[va, vb, .func (.func 24) #[] #[]] w fun e w' => e = .returned (.bool t) ∧ w.grownBy w' none := by
  obtain ⟨ao, ca, rfl, hel⟩ := ha
  obtain ⟨bo, cb, rfl, hel'⟩ := hb
  have HEA := hide hel
  have HEB := hide hel'
  have hlen := szR_len (szR lenI) A
  have HSE : Hid (∀ i (h : i < A.length), szR lenI A[i] ≤ 1048576) := fun i h => Nat.le_trans (szR_el (szR lenI) A i h).2 hs
  obtain ⟨n, HN⟩ : ∃ n, Hid (A.length = n) := ⟨_, rfl⟩
  obtain ⟨m, HM⟩ : ∃ m, Hid (B.length = m) := ⟨_, rfl⟩
  have hn : n ≤ 1048576 := by have := unhide HN; have : A.length ≤ szCo A := hlen; omega
  rw [unhide HN, unhide HM]
  clear hel hel' hlen hs
  by_cases hnm : n = m
  · subst hnm
    have hnn : ((n : Int) != (n : Int)) = false := by simp
    go_enter Tryz.func54, Tryz.ntmps54
    go_wp2
    go_loopw [17] (fun i wr => ∃ k : Nat, k ≤ n ∧ i = .int .i64 k ∧ Hid (A.take k = B.take k) ∧ Hid (w.grownBy wr none)) (fun i _ => n - (intOf i).toNat)
    case atStart => exact ⟨0, Nat.zero_le _, rfl, rfl, World.grownBy.refl _ _⟩
    case round =>
      obtain ⟨k, hk, rfl, HTK, HG⟩ := hrel
      by_cases hlt : k < n
      · have h1 : k < A.length := by have := unhide HN; omega
        have h2 : k < B.length := by have := unhide HM; omega
        obtain ⟨rb, roff, u, rfl, a0, q0⟩ := unhide HEA k h1
        obtain ⟨ib, ioff, u', rfl, c0, q1⟩ := unhide HEB k h2
        have HEQ : Hid (A[k] = B[k] → A.take (k + 1) = B.take (k + 1)) := fun e => take_both h1 h2 (unhide HTK) e
        have HNE : Hid (¬ A[k] = B[k] → t = false) := fun e => by rw [← unhide HT]; exact decide_eq_false (ne_at h1 h2 e)
        have HSK := hide (unhide HSE k h1)
        generalize A[k] = xs at *
        generalize B[k] = ys at *
        have HQ0 := hide q0
        have HQ1 := hide q1
        have hkI : (k : Int) < (n : Int) := by omega
        have k1 := i64_in ((k : Int) + 1) (by omega)
        have d0 := (unhide HG).cell a0 (by simp)
        have d1 := (unhide HG).cell c0 (by simp)
        obtain ⟨y, HY⟩ : ∃ y, Hid (decide (xs = ys) = y) := ⟨_, rfl⟩
        clear HTK h1 h2 q0 q1 a0 c0
        go_wp2_with fail
        refine (implLists19 _ _ xs ys _ (RdR.st (RdI.st .i64) _ _ _ _ (unhide HQ0) (unhide HG)) (RdR.st (RdI.st .i64) _ _ _ _ (unhide HQ1) (unhide HG)) (unhide HSK) y HY).mono ?_
        rintro e w1 ⟨rfl, g1⟩
        have HG1 := hide (grown_trans (unhide HG) g1)
        clear g1 d0 d1 HG HQ0 HQ1
        cases y with
        | false =>
          have ht := unhide HNE (of_decide_eq_false (unhide HY))
          go_wp2
          go_ret
          exact ⟨ret_bool ht.symm, unhide HG1⟩
        | true =>
          have HT1 := hide (unhide HEQ (of_decide_eq_true (unhide HY)))
          go_wp2
          go_roundw
          case rel => exact ⟨k + 1, by omega, by go_num, HT1, HG1⟩
          case measure => simp [intOf]; omega
      · obtain rfl : k = n := by omega
        obtain rfl : t = true := by rw [← unhide HT]; exact decide_eq_true (all_same (unhide HN) (unhide HM) (unhide HTK))
        go_wp2
        go_ret
        exact ⟨rfl, unhide HG⟩
  · have hnn : ((n : Int) != (m : Int)) = true := by simp; omega
    obtain rfl : t = false := by
      rw [← unhide HT]
      exact decide_eq_false (fun e => hnm (by rw [← unhide HN, ← unhide HM, e]))
    go_enter Tryz.func54, Tryz.ntmps54
    go_wp2
    go_ret
    exact ⟨rfl, World.grownBy.refl _ _⟩

theorem implCoefs19 (va vb : Value) (A B : List (List (List Int))) (w : World) (ha : Rd3 w va A) (hb : Rd3 w vb B) (hs : szCo A ≤ 1048576) (t : Bool) (HT : Hid (decide (A = B) = t)) :
    Calls Tryz.prog 25 #[.agg #[va], .agg #[vb]] w fun e w' => e = .returned (.bool t) ∧ w.grownBy w' none := by
  obtain ⟨W0, HW⟩ : ∃ W, Hid ((w.alloc (.cells #[va] 38)).alloc (.cells #[vb] 38) = W) := ⟨_, rfl⟩
  have G0 : Hid (w.grownBy W0 none) := by rw [← unhide HW]; exact grown_alloc (World.grownBy_alloc _ _ _) _
  have c0 : W0.cell? ⟨w.heap.size, 0, none⟩ = some va := by
    rw [← unhide HW, cell_of_row _ w.heap.size 0 #[va] 38 (0, 0) (by rw [Below.heap_alloc _ _ _ (by simp)]; exact heap_alloc_new w _)]
    rfl
  have c1 : W0.cell? ⟨w.heap.size + 1, 0, none⟩ = some vb := by
    rw [← unhide HW, cell_of_row _ (w.heap.size + 1) 0 #[vb] 38 (0, 0) (by simpa using heap_alloc_new (w.alloc (.cells #[va] 38)) (.cells #[vb] 38))]
    rfl
  have HC := hide (equalPlanes va vb A B W0 (st3 _ _ _ _ ha (unhide G0)) (st3 _ _ _ _ hb (unhide G0)) hs t HT)
  obtain ⟨ao, ca, rfl, -⟩ := ha
  obtain ⟨bo, cb, rfl, -⟩ := hb
  go_enter Tryz.func25, Tryz.ntmps25
  go_wp2_with fail
  rw [unhide HW]
  go_wp2_with fail
  refine (unhide HC).mono ?_
  rintro e w1 ⟨rfl, g1⟩
  clear HW
  go_wp2
  go_ret
  exact ⟨rfl, grown_trans (unhide G0) g1⟩

end Go.Proofs.YtjkokbijnaodnaaGreat

namespace Go.Proofs.YtjkokbijnaodnaaGreat
open Go.RowKit

theorem frameCells5 {w : World} {g : Nat} {a b c d v : Value} {t : TypeId} (hb : w.heap[g]? = some (.cells #[a, b, c, d, v] t (0, 0))) :
    w.cell? ⟨g, 0, none⟩ = some a ∧ w.cell? ⟨g, 1, none⟩ = some b ∧ w.cell? ⟨g, 2, none⟩ = some c ∧ w.cell? ⟨g, 3, none⟩ = some d ∧ w.cell? ⟨g, 4, none⟩ = some v :=
  ⟨by rw [cell_of_row w _ 0 _ _ (0, 0) hb]; rfl, by rw [cell_of_row w _ 1 _ _ (0, 0) hb]; rfl, by rw [cell_of_row w _ 2 _ _ (0, 0) hb]; rfl, by rw [cell_of_row w _ 3 _ _ (0, 0) hb]; rfl, by rw [cell_of_row w _ 4 _ _ (0, 0) hb]; rfl⟩

/-- The first cells of a frame, where it lies. -/
theorem fx_heads {X : Array Value} {p wd ht rs n : Int} {C : Nat → Nat → Int} (hX : Fx X p wd ht rs n C) {w : World} {g : Nat} {t : TypeId} (hb : w.heap[g]? = some (.cells X t (0, 0))) :
    w.cell? ⟨g, 0, none⟩ = some (.int .i64 p) ∧ w.cell? ⟨g, 1, none⟩ = some (.int .i64 wd) ∧ w.cell? ⟨g, 2, none⟩ = some (.int .i64 ht) ∧ w.cell? ⟨g, 3, none⟩ = some (.int .i64 rs) ∧ w.cell? ⟨g, 4, none⟩ = some (.int .i64 n) :=
  ⟨by rw [cell_of_row w _ 0 _ _ (0, 0) hb]; exact hX.c0, by rw [cell_of_row w _ 1 _ _ (0, 0) hb]; exact hX.c1, by rw [cell_of_row w _ 2 _ _ (0, 0) hb]; exact hX.c2, by rw [cell_of_row w _ 3 _ _ (0, 0) hb]; exact hX.c3, by rw [cell_of_row w _ 4 _ _ (0, 0) hb]; exact hX.c4⟩

/-- A frame with no components yet. -/
theorem fx_new (p wd ht rs n : Int) : Fx #[.int .i64 p, .int .i64 wd, .int .i64 ht, .int .i64 rs, .int .i64 n, .int .i64 0, .int .i64 0, .int .i64 0, .int .i64 0, .int .i64 0, .int .i64 0, .int .i64 0, .int .i64 0, .int .i64 0, .int .i64 0, .int .i64 0, .int .i64 0, .int .i64 0, .int .i64 0, .int .i64 0, .int .i64 0] p wd ht rs n (fun _ _ => 0) := by
  refine ⟨rfl, rfl, rfl, rfl, rfl, rfl, fun i j hi hj => ?_⟩
  have h1 : i = 0 ∨ i = 1 ∨ i = 2 ∨ i = 3 := by omega
  have h2 : j = 0 ∨ j = 1 ∨ j = 2 ∨ j = 3 := by omega
  rcases h1 with rfl | rfl | rfl | rfl <;> rcases h2 with rfl | rfl | rfl | rfl <;> rfl

theorem all_four (a b c d : Int) : (#[.int .i64 a, .int .i64 b, .int .i64 c, .int .i64 d] : Array Value).all (·.oneCell') = true := by
  rw [Array.all_eq_true_iff_forall_mem]
  intro v hv
  simp at hv
  rcases hv with rfl | rfl | rfl | rfl <;> rfl

theorem Fx.congr {X : Array Value} {p wd ht rs n : Int} {D E : Nat → Nat → Int} (h : Fx X p wd ht rs n D) (he : ∀ i j, D i j = E i j) : Fx X p wd ht rs n E := by
  have e : D = E := by funext i j; exact he i j
  rw [← e]; exact h

/-- One component put. -/
theorem fx_put {X : Array Value} {p wd ht rs n : Int} {D : Nat → Nat → Int} (h : Fx X p wd ht rs n D) (k : Nat) (hk : k < 4) (c0 c1 c2 c3 : Int) :
    Fx (X.toList.take (5 + k * 4) ++ (#[.int .i64 c0, .int .i64 c1, .int .i64 c2, .int .i64 c3] : Array Value).toList ++ X.toList.drop (5 + k * 4 + (#[.int .i64 c0, .int .i64 c1, .int .i64 c2, .int .i64 c3] : Array Value).toList.length)).toArray p wd ht rs n (fun i j => if i = k then (if j = 0 then c0 else if j = 1 then c1 else if j = 2 then c2 else c3) else D i j) := by
  have hs := h.size
  have hl : (X.toList.take (5 + k * 4)).length = 5 + k * 4 := by simp; omega
  have hlc : (#[.int .i64 c0, .int .i64 c1, .int .i64 c2, .int .i64 c3] : Array Value).toList.length = 4 := rfl
  rw [hlc]
  have low : ∀ q, q < 5 + k * 4 → (X.toList.take (5 + k * 4) ++ (#[.int .i64 c0, .int .i64 c1, .int .i64 c2, .int .i64 c3] : Array Value).toList ++ X.toList.drop (5 + k * 4 + 4)).toArray[q]? = X[q]? := by
    intro q hq
    rw [List.getElem?_toArray, List.append_assoc, List.getElem?_append_left (by omega), List.getElem?_take, if_pos hq]
    simp
  refine ⟨by simp; omega, (low 0 (by omega)).trans h.c0, (low 1 (by omega)).trans h.c1, (low 2 (by omega)).trans h.c2, (low 3 (by omega)).trans h.c3, (low 4 (by omega)).trans h.c4, fun i j hi hj => ?_⟩
  by_cases hik : i < k
  · rw [low _ (by omega), if_neg (by omega)]
    exact h.comp i j hi hj
  · rw [List.getElem?_toArray]
    by_cases e : i = k
    · subst e
      rw [if_pos rfl, List.getElem?_append_left (by rw [List.length_append, hl, hlc]; omega), List.getElem?_append_right (by omega), hl, show 5 + i * 4 + j - (5 + i * 4) = j by omega]
      have hj4 : j = 0 ∨ j = 1 ∨ j = 2 ∨ j = 3 := by omega
      rcases hj4 with rfl | rfl | rfl | rfl <;> rfl
    · rw [if_neg e, List.getElem?_append_right (by rw [List.length_append, hl, hlc]; omega), List.length_append, hl, hlc, List.getElem?_drop, show 5 + k * 4 + 4 + (5 + i * 4 + j - (5 + k * 4 + 4)) = 5 + i * 4 + j by omega]
      have := h.comp i j hi hj
      simpa using this

/-- The components, where the frame lies, as what is to be appended. -/
theorem fx_news {X : Array Value} {p wd ht rs n : Int} {C : Nat → Nat → Int} (hX : Fx X p wd ht rs n C) {w : World} {g : Nat} {t : TypeId} (hb : w.heap[g]? = some (.cells X t (0, 0))) (m : Nat) (hm : m ≤ 4) :
    ∀ j u, (rowsK m 4 (compCells C))[j]? = some u → w.cell? ((⟨g, 5, none⟩ : Addr).add j) = some u := by
  intro j u hj
  have hjl : j < m * 4 := by have := (List.getElem?_eq_some_iff.1 hj).1; rwa [rowsK_len] at this
  have hd : j = j / 4 * 4 + j % 4 := by omega
  have hg := rowsK_get m 4 (compCells C) (j / 4) (j % 4) (by omega) (by omega)
  rw [← hd, hj] at hg
  simp at hg
  subst hg
  rw [Addr.add_lit]
  have := fx_cell hX hb (j / 4) (j % 4) (by omega) (by omega)
  rw [Nat.add_assoc, ← hd] at this
  exact this

theorem frameFree {w : World} {g : Nat} {a b c d v : Value} {t : TypeId} (hb : w.heap[g]? = some (.cells #[a, b, c, d, v] t (0, 0))) :
    w.frozen? ⟨g, 0, none⟩ = false ∧ w.frozen? ⟨g, 1, none⟩ = false ∧ w.frozen? ⟨g, 2, none⟩ = false ∧ w.frozen? ⟨g, 3, none⟩ = false ∧ w.frozen? ⟨g, 4, none⟩ = false :=
  ⟨frozen_of_row w _ 0 _ _ hb, frozen_of_row w _ 1 _ _ hb, frozen_of_row w _ 2 _ _ hb, frozen_of_row w _ 3 _ _ hb, frozen_of_row w _ 4 _ _ hb⟩
theorem own_as4 {w : World} {base : Nat} {e : TypeId} {v : Value} {n n' : Nat} {xs xs' : List Value} (h : w.ownsRow base e 4 v n xs) (hn : n = n') (hx : xs = xs') : w.ownsRow base e 4 v n' xs' := by subst hn; subst hx; exact h

theorem rowsK_comp (C : Nat → Nat → Int) (k : Nat) (y0 y1 y2 y3 : Int) (h : C k = fun j => if j = 0 then y0 else if j = 1 then y1 else if j = 2 then y2 else y3) :
    rowsK (k + 1) 4 (compCells C) = rowsK k 4 (compCells C) ++ [.int .i64 y0, .int .i64 y1, .int .i64 y2, .int .i64 y3] := by
  apply List.ext_getElem?
  intro c
  by_cases hc : c < k * 4
  · rw [List.getElem?_append_left (by rw [rowsK_len]; exact hc)]
    have hd : c = c / 4 * 4 + c % 4 := by omega
    have e1 := rowsK_get (k + 1) 4 (compCells C) (c / 4) (c % 4) (by omega) (by omega)
    have e2 := rowsK_get k 4 (compCells C) (c / 4) (c % 4) (by omega) (by omega)
    rw [← hd] at e1 e2
    rw [e1, e2]
  · rw [List.getElem?_append_right (by rw [rowsK_len]; omega), rowsK_len]
    by_cases h4 : c - k * 4 < 4
    · have e1 := rowsK_get (k + 1) 4 (compCells C) k (c - k * 4) (by omega) h4
      rw [show k * 4 + (c - k * 4) = c by omega] at e1
      rw [e1]
      have hj : c - k * 4 = 0 ∨ c - k * 4 = 1 ∨ c - k * 4 = 2 ∨ c - k * 4 = 3 := by omega
      rcases hj with e | e | e | e <;> rw [e] <;> simp [compCells, h]
    · rw [List.getElem?_eq_none (by rw [rowsK_len]; omega), List.getElem?_eq_none (by simp; omega)]

end Go.Proofs.YtjkokbijnaodnaaGreat
