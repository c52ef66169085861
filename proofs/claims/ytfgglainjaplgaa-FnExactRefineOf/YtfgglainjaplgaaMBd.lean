/-
  TabZigSpec2, TreeGA, AppIntS, CutSpec, FirstSpec, RunPure, RunSpec, RefSpec, LawRefineOf, LevelFix.
-/
import Derived.Test.YtfgglainjaplgaaRows
import Derived.Maps.AppendAt
import Derived.Deep.AppendLies
import Derived.Test.YtfgglainjaplgaaMBc

namespace Go.Proofs.Ytfgglainjaplgaa
open Go.RowKit

theorem unz_setL (zs : List Int) (k : Nat) (h : k < 64) : ((unzTo zs k).map (Value.int .i64)).set (zz k) (.int .i64 (zs.getD k 0)) = (unzTo zs (k + 1)).map (Value.int .i64) := by
  have e := congrArg Array.toList (unz_set zs k h)
  simpa [sq] using e

set_option maxRecDepth 20000 in
set_option maxHeartbeats 1600000 in
theorem specToZig (ao : Option Addr) (n cap : Nat) (zs : List Int) (w : World) (hr : Rd .i64 w ao n zs) (b : Bool) (hb : Hid (numsB (-32767) 32767 zs = b)) (L : List Int) (HL : Hid ((if b then zigged zs else []) = L)) :
    Calls Try.prog 20 #[.slice ao n cap] w fun e w' => ∃ so sc, e = .returned (.slice so L.length sc) ∧ w'.ownsRow w.heap.size 3 1 (.slice so L.length sc) L.length (L.map (Value.int .i64)) ∧ w.grownBy w' none := by
  have HO : Hid ((w.alloc (.cells #[] 3)).ownsRow w.heap.size 3 1 (.slice (some ⟨w.heap.size, 0, none⟩) 0 0) 0 []) := World.ownsRow_lit w #[] 0 (Nat.le_refl _) (by unfold maxLen; omega) rfl
  have HR := hide (hr.grown (World.grownBy_alloc w (.cells #[] 3) none))
  have HN := hide hr.1
  have HLW := hide hr.lt
  clear hr
  go_enter Try.func20, Try.ntmps20
  go_wp2_with fail
  refine (specBlockOk ao n cap zs _ (unhide HR) b hb).mono ?_
  rintro e w1 ⟨rfl, g1⟩
  have HG1 : Hid (w.grownBy w1 none) := grown_trans (World.grownBy_alloc _ _ _) g1
  have HO1 := hide (own_grown (unhide HO) g1)
  have HR1 := hide ((unhide HR).grown g1)
  clear g1 HO HR
  cases b with
  | false =>
    have e : L = [] := (unhide HL).symm
    subst e
    go_wp2
    go_ret
    exact ⟨_, _, rfl, unhide HO1, unhide HG1⟩
  | true =>
    have hz := (nums_at (unhide hb)).1
    have hn : n = 64 := by rw [← unhide HN]; exact hz
    subst hn
    have e : L = zigged zs := (unhide HL).symm
    subst e
    clear HL hb
    have HZ := hide hz
    clear hz
    go_wp2_with fail
    refine (specZigZag w1).mono ?_
    rintro e w2 ⟨zo, zc, rfl, oz, g2⟩
    have hs1 : w.heap.size < w1.heap.size := by have := (unhide HO1).lt w.heap.size rfl; omega
    have HZL : Hid (∀ b off, zo = some ⟨b, off, none⟩ → b ≠ w.heap.size) := by
      intro b off e
      subst e
      have h := (oz.lt b (by simp [Value.ownBlock])).1
      omega
    have HRL : Hid (∀ b off, ao = some ⟨b, off, none⟩ → b ≠ w.heap.size) := by
      intro b off e
      exact Nat.ne_of_lt (unhide HLW (by omega) b off e)
    have HZZ := hide (own_rd oz)
    have HO2 : Hid (OutI w w2 w.heap.size w2 (.slice (some ⟨w.heap.size, 0, none⟩) 0 0) 0 []) := ⟨own_grown (unhide HO1) g2, grown_trans (unhide HG1) g2, World.grownBy.refl _ _, fun g e => by simp [Value.ownBlock] at e; left; exact e.symm⟩
    have HR2 := hide ((unhide HR1).grown g2)
    clear oz g2 HO1 HR1 HG1 hs1
    go_wp2
    go_loopw [3, 5] (fun o i wr => ∃ k : Nat, k ≤ 64 ∧ i = .int .i64 k ∧ Hid (OutI w w2 w.heap.size wr o k ((zigged zs).take k))) (fun _ i _ => 64 - (intOf i).toNat)
    case atStart => exact ⟨0, Nat.zero_le _, rfl, HO2⟩
    case round =>
      obtain ⟨k, hk, rfl, hM⟩ := hrel
      obtain ⟨so2, sc2, rfl⟩ := own_form (unhide hM).own
      by_cases hlt : k < 64
      · obtain ⟨p, hp⟩ : ∃ p, zz k = p := ⟨_, rfl⟩
        have hp64 : p < 64 := by rw [← hp]; exact zz_lt k hlt
        obtain ⟨zb, zoff, rfl, hzc⟩ := (unhide HZZ).2 k (by rw [zz_len]; exact hlt)
        have ez : zzL.getD k 0 = (p : Int) := by rw [← hp]; exact zzF_eq k
        rw [ez] at hzc
        have hzc2 := (unhide hM).kept.cell hzc (fun e => unhide HZL zb zoff rfl (by simpa using e))
        obtain ⟨ab, aoff, rfl, hac⟩ := (unhide HR2).2 p hp64
        have hac2 := (unhide hM).kept.cell hac (fun e => unhide HRL ab aoff rfl (by simpa using e))
        have HV : Hid (zs.getD p 0 = (fun k => zs.getD (zz k) 0) k) := by unfold Hid; rw [← hp]
        have hzl : (zzL.length : Int) = 64 := by rw [zz_len]; rfl
        generalize zs.getD p 0 = z at hac2 HV
        clear hac hzc ez hp
        go_wp2_with (at_builtin; refine append_out rfl _ _ rfl w w2 w.heap.size _ k ((zigged zs).take k) rfl (unhide hM) _ rfl (by omega) ?_; intro v' w' ho)
        go_roundw
        case rel =>
          refine ⟨k + 1, by omega, by go_num, ?_⟩
          unfold zigged at ho
          rw [made_take _ k hlt _ (unhide HV)] at ho
          exact ho
        case measure => simp [intOf]; omega
      · obtain rfl : k = 64 := by omega
        have hM := unhide hM
        have e64 : (zigged zs).length = 64 := made_len _
        unfold zigged at hM
        rw [made_take_all] at hM
        have HM : Hid (OutI w w2 w.heap.size wr (.slice so2 64 sc2) 64 (zigged zs)) := hM
        have HE := hide e64
        clear hM e64
        go_wp2
        go_ret
        exact ⟨so2, sc2, by rw [unhide HE]; rfl, by rw [unhide HE]; exact (unhide HM).own, (unhide HM).base⟩

set_option maxRecDepth 20000 in
set_option maxHeartbeats 1600000 in
theorem specFromZig (ao : Option Addr) (n cap : Nat) (zs : List Int) (w : World) (hr : Rd .i64 w ao n zs) (b : Bool) (hb : Hid (numsB (-32767) 32767 zs = b)) (L : List Int) (HL : Hid ((if b then unzigged zs else []) = L)) :
    Calls Try.prog 47 #[.slice ao n cap] w fun e w' => ∃ so sc, e = .returned (.slice so L.length sc) ∧ w'.ownsRow w.heap.size 3 1 (.slice so L.length sc) L.length (L.map (Value.int .i64)) ∧ w.grownBy w' none := by
  obtain ⟨i0, hi, hz0, hz1, hz2⟩ := info_parts Try.info3
  have HR := hide hr
  have HN := hide hr.1
  have HLW := hide hr.lt
  clear hr
  go_enter Try.func47, Try.ntmps47
  go_wp2_with fail
  refine (specBlockOk ao n cap zs _ (unhide HR) b hb).mono ?_
  rintro e w1 ⟨rfl, g1⟩
  have HG1 := hide g1
  have HR1 := hide ((unhide HR).grown g1)
  clear g1 HR
  cases b with
  | false =>
    have e : L = [] := (unhide HL).symm
    subst e
    go_wp2
    go_ret
    exact ⟨_, _, rfl, own_base (World.ownsRow_lit w1 #[] 0 (Nat.le_refl _) (by unfold maxLen; omega) rfl) (unhide HG1).size, grown_alloc (unhide HG1) _⟩
  | true =>
    have hz := (nums_at (unhide hb)).1
    have hn : n = 64 := by rw [← unhide HN]; exact hz
    subst hn
    have e : L = unzigged zs := (unhide HL).symm
    subst e
    clear HL hb
    have HZ := hide hz
    clear hz
    go_wp2_with (at_make; refine wpList_make_full _ rfl _ _ 24 rfl w1.heap.size 3 i0 (.int .i64 0) 1 Try.underlying24 hi hz0 hz1 .i64 .i64 _ _ 64 rfl rfl rfl rfl (by rw [hz2]; omega) (by unfold maxLen; omega) (Nat.le_refl _) ?_)
    intro w2 hown hgrow
    have hown0 : w2.ownsRow w1.heap.size 3 1 (.slice (some ⟨w1.heap.size, 0, none⟩) 64 64) 64 ((unzTo zs 0).map (Value.int .i64)) := by
      rw [unz_zero]
      have e : (madeCells #[Value.int .i64 0] 64).toList = zs64.map (Value.int .i64) := by rw [toList_madeCells_one]; simp [zs64]
      rw [← e]; exact hown
    have HO2 := hide hown0
    have HG2 := hide (grown_trans (unhide HG1) hgrow)
    have HR2 := hide ((unhide HR1).grown hgrow)
    clear hown hown0 hgrow HR1 hi hz0 hz1 hz2
    go_wp2_with fail
    refine (specZigZag w2).mono ?_
    rintro e w3 ⟨zo, zc, rfl, oz, g3⟩
    have HZZ := hide (own_rd oz)
    have HZL : Hid (∀ b off, zo = some ⟨b, off, none⟩ → b ≠ w1.heap.size) := by
      intro b off e
      subst e
      have h := (oz.lt b (by simp [Value.ownBlock])).1
      have h2 := ((unhide HO2).lt w1.heap.size rfl).2
      omega
    have HRL : Hid (∀ b off, ao = some ⟨b, off, none⟩ → b ≠ w1.heap.size) := by
      intro b off e
      have h := unhide HLW (by omega) b off e
      have := (unhide HG1).size
      omega
    have HO3 := hide (own_grown (unhide HO2) g3)
    have HR3 := hide ((unhide HR2).grown g3)
    have HG3 := hide (grown_trans (unhide HG2) g3)
    clear oz g3 HO2 HR2 HG2
    go_wp2
    go_loopw [5] (fun i wr => ∃ k : Nat, k ≤ 64 ∧ i = .int .i64 k ∧ Hid (wr.ownsRow w1.heap.size 3 1 (.slice (some ⟨w1.heap.size, 0, none⟩) 64 64) 64 ((unzTo zs k).map (Value.int .i64))) ∧ Hid (w3.grownBy wr (some w1.heap.size))) (fun i _ => 64 - (intOf i).toNat)
    case atStart => exact ⟨0, Nat.zero_le _, rfl, HO3, World.grownBy.refl _ _⟩
    case round =>
      obtain ⟨k, hk, rfl, hM, hgk⟩ := hrel
      by_cases hlt : k < 64
      · obtain ⟨p, hp⟩ : ∃ p, zz k = p := ⟨_, rfl⟩
        have hp64 : p < 64 := by rw [← hp]; exact zz_lt k hlt
        obtain ⟨zb, zoff, rfl, hzc⟩ := (unhide HZZ).2 k (by rw [zz_len]; exact hlt)
        have ez : zzL.getD k 0 = (p : Int) := by rw [← hp]; exact zzF_eq k
        rw [ez] at hzc
        have hzc2 := (unhide hgk).cell hzc (fun e => unhide HZL zb zoff rfl (by simpa using e))
        obtain ⟨ab, aoff, rfl, hac⟩ := (unhide HR3).2 k hlt
        have hac2 := (unhide hgk).cell hac (fun e => unhide HRL ab aoff rfl (by simpa using e))
        have hzl : (zzL.length : Int) = 64 := by rw [zz_len]; rfl
        have hold : ∃ u, wr.cell? ⟨w1.heap.size, p, none⟩ = some u := by rw [(unhide hM).cellAt p (by omega)]; exact ⟨_, List.getElem?_eq_getElem (by rw [(unhide hM).1]; omega)⟩
        obtain ⟨u, hu⟩ := hold
        have hfr := (unhide hM).frozenAt p
        have HST : Hid ((wr.setCell ⟨w1.heap.size, p, none⟩ (.int .i64 (zs.getD k 0))).drew.ownsRow w1.heap.size 3 1 (.slice (some ⟨w1.heap.size, 0, none⟩) 64 64) 64 ((unzTo zs (k + 1)).map (Value.int .i64)) ∧ w3.grownBy (wr.setCell ⟨w1.heap.size, p, none⟩ (.int .i64 (zs.getD k 0))).drew (some w1.heap.size)) := by
          have st := (unhide hM).stored p (.int .i64 (zs.getD k 0))
          rw [← hp, unz_setL zs k hlt] at st
          rw [← hp]
          exact ⟨st.1, grown_drew (grown_trans (unhide hgk) st.2)⟩
        generalize zs.getD k 0 = z at hac2 HST
        clear ez hp hac hzc
        have hpI : (p : Int) < 64 := by omega
        have HZN : Hid (zb ≠ w1.heap.size) := unhide HZL zb zoff rfl
        have HAN : Hid (ab ≠ w1.heap.size) := unhide HRL ab aoff rfl
        go_wp2
        refine wp_region_noPanic ?_
        refine wp_region_tail (fun w' => w'.cell? ⟨zb, zoff + k, none⟩ = some (.int .i64 (p : Int)) ∧ w'.cell? ⟨ab, aoff + k, none⟩ = some (.int .i64 z)) [true, true, true, true, true, true, true, true, true, false, false] (by kernel_rfl) (fun _ _ _ _ _ h => h) rfl (by kernel_rfl) ⟨hzc2, hac2⟩ ?_
        iterate 9
          refine heldF_take (v := ?_) (Or.inl ⟨by rfl, ?_⟩) ?_
          rotate_left 1
          · intro w' hSw
            try dsimp only at hSw
            go_simp
            try with_reducible rfl
          simp only [Act.put, List.setIfInBounds_toArray, List.set_cons_zero, List.set_cons_succ]
        refine heldF_skip (heldF_skip (heldF_nil ?_))
        iterate 9 refine tailF_skip ?_
        refine tailF_step (fun K hK => ?_)
        go_simp
        refine hK.out _ _ ⟨hzc2, hac2⟩ ?_
        clear hK K
        refine tailF_step (fun K hK => ?_)
        go_simp
        refine hK.out _ _ ⟨(World.cell?_setCell_far _ _ _ _ (fun e => unhide HZN e.symm)).trans hzc2, (World.cell?_setCell_far _ _ _ _ (fun e => unhide HAN e.symm)).trans hac2⟩ ?_
        clear hK K
        refine tailF_nil (NoPanic.normal ?_)
        go_wp2
        go_roundw
        case rel => exact ⟨k + 1, by omega, by go_num, (unhide HST).1, (unhide HST).2⟩
        case measure => simp [intOf]; omega
      · obtain rfl : k = 64 := by omega
        have hM := unhide hM
        rw [unz_all] at hM
        have HM := hide hM
        have HE : Hid ((unzigged zs).length = 64) := made_len _
        clear hM
        go_wp2
        go_ret
        exact ⟨_, _, by rw [unhide HE]; rfl, by rw [unhide HE]; exact own_base (unhide HM) (unhide HG1).size, grown_new (unhide HG3) (unhide hgk) (fun g e => by simp at e; have := (unhide HG1).size; omega)⟩

end Go.Proofs.Ytfgglainjaplgaa

namespace Go.Proofs.Ytfgglainjaplgaa
open Go.RowKit

theorem rowsK_append (n m k : Nat) (hk : 0 < k) (U V : Nat → Nat → Value) : rowsK n k U ++ rowsK m k V = rowsK (n + m) k (fun i j => if i < n then U i j else V (i - n) j) := by
  apply List.ext_getElem?
  intro c
  by_cases h1 : c < n * k
  · rw [List.getElem?_append_left (by rw [rowsK_len]; exact h1)]
    have hi' : c / k < n := Nat.div_lt_of_lt_mul (by rw [Nat.mul_comm]; exact h1)
    have hm : c % k < k := Nat.mod_lt _ hk
    have hd : c = (c / k) * k + c % k := by have := Nat.div_add_mod c k; rw [Nat.mul_comm] at this; omega
    rw [hd, rowsK_get n k U _ _ hi' hm, rowsK_get (n + m) k _ _ _ (by omega) hm, if_pos hi']
  · obtain ⟨d, rfl⟩ : ∃ d, c = n * k + d := ⟨c - n * k, by omega⟩
    rw [List.getElem?_append_right (by rw [rowsK_len]; omega), rowsK_len, Nat.add_sub_cancel_left]
    have hd : d = (d / k) * k + d % k := by have := Nat.div_add_mod d k; rw [Nat.mul_comm] at this; omega
    have hm : d % k < k := Nat.mod_lt _ hk
    have hc : n * k + d = (n + d / k) * k + d % k := by rw [Nat.add_mul]; omega
    by_cases h2 : d < m * k
    · have hi' : d / k < m := Nat.div_lt_of_lt_mul (by rw [Nat.mul_comm]; exact h2)
      rw [hc, rowsK_get (n + m) k _ _ _ (Nat.add_lt_add_left hi' n) hm, if_neg (Nat.not_lt.2 (Nat.le_add_right _ _)), Nat.add_sub_cancel_left]
      have e9 := rowsK_get m k V (d / k) (d % k) hi' hm
      rw [← hd] at e9
      exact e9
    · rw [List.getElem?_eq_none (by rw [rowsK_len]; omega), List.getElem?_eq_none (by rw [rowsK_len, Nat.add_mul]; omega)]

theorem append_rowsG {α : Type} {P : World → (Nat → Value) → α → List Nat → Prop} (hP : OkG P) {e T : TypeId} {sz bytes : Nat} {z : Value} (hT : Try.prog.underlying T = some (.slice e)) (hI : (Try.prog.info? e).map (fun i => (i.zero, i.size, i.bytes)) = some (some z, sz, bytes)) (hzs : z.cells.size = sz) (hsz : 0 < sz) (hbt : bytes ≤ 1000)
    {w : World} {ops : Array Oper} {rest : List Oper} {o : Oper} {a : Act} {Q : Exit → Act → World → Prop} (hgd : o.guard = none) (s x : Operand)
    (ho : o.op = .call { callee := .builtin .append, args := #[s, x], argTypes := #[T, T] })
    (v : Value) (L : List α) (F : List Nat) (hs : a.eval s = v) (hown : OwG e sz P w v L F) (hF : F.Nodup)
    (cs : Array Value) (m : Nat) (V : Nat → Nat → Value) (hcs : cs.toList = rowsK m sz V) (M : List α) (hM : M.length = m) (Gs : List (List Nat)) (hGs : Gs.length = m) (hu : ∀ i (h : i < M.length), P w (V i) M[i] (Gs.getD i [])) (hG : Gs.flatten.Nodup) (hd : ∀ x ∈ Gs.flatten, x ∉ F) (h1c : ∀ u ∈ cs.toList, u.oneCell' = true)
    (H : Nat) (hH : w.heap.size = H) (hx : a.eval x = .slice (some ⟨H, 0, none⟩) m m) (hb : L.length + m ≤ 1000000) (R : List α) (hR : L ++ M = R)
    (h : ∀ v' w' F', OwG e sz P w' v' R F' → F'.Nodup → (∀ x ∈ F', x ∈ F ∨ x ∈ Gs.flatten ∨ w.heap.size ≤ x) → Wr (blk v) w w' → wpList Try.prog ops Q rest (a.put o.dst v') w') :
    wpList Try.prog ops Q (o :: rest) a (w.alloc (.cells cs e)) := by
  subst hR
  subst hH
  obtain ⟨i0, hi, hz0, hz1, hz2⟩ := info_parts hI
  obtain ⟨U, Fs, l2, o1, els, rfl⟩ := hown
  have hn := List.nodup_append.1 hF
  have hbb : (L.length + m) * bytes ≤ 1000000 * 1000 := Nat.mul_le_mul hb hbt
  refine wpList_append_own_at _ hgd s x T ho 0 e i0 _ sz bytes hT hi hz0 hz1 hz2 hzs hsz v L.length _ hs (o1.alloc _) ⟨w.heap.size, 0, none⟩ m m cs.toList hx (by rw [hcs, rowsK_len]) (World.news_of_block (cs := cs) (t := e) (fr := (0, 0)) (heap_alloc_new w _)) h1c (by unfold maxLen; omega) (by omega) (Nat.zero_le _) ?_
  intro v' w' h1 h2 _ h4
  have hga : w.grownBy w' v.ownBlock := ⟨h2.os, h2.tape, h2.output, by have h := h2.size; simp at h; omega, fun k hk hr => (h2.block k (by simp; omega) hr).trans (Below.heap_alloc _ _ _ hk)⟩
  have hw : Wr (blk v) w w' := Wr.ofRow hga (fun g e => mem_blk.2 e)
  have hvb : ∀ y, y ∈ blk v' → y ∈ blk v ∨ w.heap.size ≤ y := fun y hy => by
    rcases h4 with h4 | h4
    · exact .inl (mem_blk.2 (by rw [← h4]; exact mem_blk.1 hy))
    · have e1 := mem_blk.1 hy
      rw [h4] at e1
      have e2 : (w.alloc (.cells cs e)).heap.size = y := Option.some.inj e1
      exact .inr (by simp at e2; omega)
  have hfl : (Fs ++ Gs).flatten = Fs.flatten ++ Gs.flatten := by simp
  have hlt : ∀ y ∈ Fs.flatten, y < w.heap.size := fun y hy => by
    obtain ⟨l, hl, hyl⟩ := List.mem_flatten.1 hy
    obtain ⟨i, hi, rfl⟩ := List.mem_iff_getElem.1 hl
    exact hP.lt w _ _ _ (els i (by omega)) y (by simpa [hi] using hyl)
  have hltG : ∀ y ∈ Gs.flatten, y < w.heap.size := fun y hy => by
    obtain ⟨l, hl, hyl⟩ := List.mem_flatten.1 hy
    obtain ⟨i, hi, rfl⟩ := List.mem_iff_getElem.1 hl
    exact hP.lt w _ _ _ (hu i (by omega)) y (by simpa [hi] using hyl)
  refine h v' w' (blk v' ++ (Fs ++ Gs).flatten) ⟨fun i j => if i < L.length then U i j else V (i - L.length) j, Fs ++ Gs, by simp [l2, hGs, hM], ?_, fun i hi => ?_, rfl⟩ ?_ ?_ hw
  · rw [List.length_append, hM, ← rowsK_append L.length m sz hsz, ← hcs]; exact h1
  · by_cases hil : i < L.length
    · have e1 : (fun j => if i < L.length then U i j else V (i - L.length) j) = U i := by funext j; rw [if_pos hil]
      have e2 : (Fs ++ Gs).getD i [] = Fs.getD i [] := by simp [List.getElem?_append_left (show i < Fs.length by omega)]
      dsimp only
      rw [e1, e2, List.getElem_append_left hil]
      exact hP.wr (els i hil) hw (fun y hy hy2 => hn.2.2 y hy2 y (flat_in (by omega) y hy) rfl)
    · have him : i - L.length < M.length := by rw [List.length_append] at hi; omega
      have e1 : (fun j => if i < L.length then U i j else V (i - L.length) j) = V (i - L.length) := by funext j; rw [if_neg hil]
      have e2 : (Fs ++ Gs).getD i [] = Gs.getD (i - L.length) [] := by simp [List.getElem?_append_right (show Fs.length ≤ i by omega), l2]
      dsimp only
      rw [e1, e2, List.getElem_append_right (by omega)]
      exact hP.wr (hu (i - L.length) him) hw (fun y hy hy2 => hd y (flat_in (by omega) y hy) (by simp [hy2]))
  · rw [hfl]
    refine List.nodup_append.2 ⟨blk_nodup v', List.nodup_append.2 ⟨hn.2.1, hG, fun y hy z hz => ?_⟩, fun y hy z hz => ?_⟩
    · rintro rfl
      exact hd y hz (by simp [hy])
    · rintro rfl
      rcases List.mem_append.1 hz with hz | hz
      · rcases hvb y hy with h5 | h5
        · exact hn.2.2 y h5 y hz rfl
        · have := hlt y hz; omega
      · rcases hvb y hy with h5 | h5
        · exact hd y hz (by simp [h5])
        · have := hltG y hz; omega
  · intro y hy
    rw [hfl] at hy
    rcases List.mem_append.1 hy with hy | hy
    · rcases hvb y hy with h5 | h5
      · exact .inl (by simp [h5])
      · exact .inr (.inr h5)
    · rcases List.mem_append.1 hy with hy | hy
      · exact .inl (by simp [hy])
      · exact .inr (.inl hy)

end Go.Proofs.Ytfgglainjaplgaa

namespace Go.Proofs.Ytfgglainjaplgaa
open Go.RowKit

theorem info_iS : (Try.prog.info? 3).map (fun i => (i.zero, i.size, i.bytes)) = some (some (.int .i64 0), 1, 8) := by kernel_rfl
theorem append_intS {w : World} {ops : Array Oper} {rest : List Oper} {o : Oper} {a : Act} {Q : Exit → Act → World → Prop} (hgd : o.guard = none) (s x : Operand)
    (ho : o.op = .call { callee := .builtin .append, args := #[s, x], argTypes := #[24, 24] })
    (base : Nat) (v : Value) (L : List Int) (hs : a.eval s = v) (hown : w.ownsRow base 3 1 v L.length (L.map (Value.int .i64))) (t : Int) (hx : a.eval x = .slice (some ⟨w.heap.size, 0, none⟩) 1 1) (hb : L.length ≤ 2000000) (hbase : base ≤ w.heap.size) (R : List Int) (hR : L ++ [t] = R)
    (hK : ∀ v' w', w'.ownsRow base 3 1 v' R.length (R.map (Value.int .i64)) → w.grownBy w' v.ownBlock → (v'.ownBlock = v.ownBlock ∨ ∀ g, v'.ownBlock = some g → w.heap.size ≤ g) → wpList Try.prog ops Q rest (a.put o.dst v') w') :
    wpList Try.prog ops Q (o :: rest) a (w.alloc (.cells #[.int .i64 t] 3)) := by
  subst hR
  obtain ⟨i0, hi, hz0, hz1, hz2⟩ := info_parts info_iS
  refine wpList_append_own_at _ hgd s x 24 ho base 3 i0 _ 1 8 Try.underlying24 hi hz0 hz1 hz2 rfl (by decide) v L.length _ hs (hown.alloc _) ⟨w.heap.size, 0, none⟩ 1 1 [.int .i64 t] hx rfl (World.news_of_block (cs := #[.int .i64 t]) (t := 3) (fr := (0, 0)) (heap_alloc_new w _)) (by intro u hu; simp at hu; subst hu; rfl) (by unfold maxLen; omega) (by omega) (by simp; omega) ?_
  intro v' w' h1 h2 _ h4
  refine hK v' w' ?_ ⟨h2.os, h2.tape, h2.output, by have h := h2.size; simp at h; omega, fun k hk hr => (h2.block k (by simp; omega) hr).trans (Below.heap_alloc _ _ _ hk)⟩ ?_
  · rw [List.map_append, List.length_append]; exact h1
  · rcases h4 with h4 | h4
    · exact .inl h4
    · refine .inr fun g e => ?_
      rw [h4] at e
      have e2 : (w.alloc (.cells #[.int .i64 t] 3)).heap.size = g := Option.some.inj e
      simp at e2; omega

end Go.Proofs.Ytfgglainjaplgaa

namespace Go.Proofs.Ytfgglainjaplgaa
open Go.RowKit

set_option maxHeartbeats 800000 in
theorem specCut (n : Int) (lo : Nat) (hn : -32767 ≤ n ∧ n ≤ 32767) (hlo : lo ≤ 62) (w : World) :
    Calls Try.prog 40 #[.int .i64 n, .int .i64 lo] w fun e w' => e = .returned (.int .i64 (cutI n lo)) ∧ w = w' := by
  have hp := pow2_pos lo
  have key : ∀ a : Int, 0 ≤ a → 0 ≤ a / 2 ^ lo ∧ a / 2 ^ lo ≤ a := fun a ha => ⟨Int.ediv_nonneg ha (Int.le_of_lt hp), Int.ediv_le_self _ ha⟩
  have l0 : (0 : Int) ≤ (lo : Int) := by omega
  have l1 : ¬ ((lo : Int) < 0) := by omega
  have l2 : (lo : Int).toNat = lo := rfl
  by_cases h : n < 0
  · have hd : decide (n < 0) = true := decide_eq_true h
    have k := key (-n) (by omega)
    have e1 := i64_in (-n) (by omega)
    have e2 := i64_in (-(-n / 2 ^ lo)) (by omega)
    have e3 := i64_in (-n / 2 ^ lo) (by omega)
    have ec : cutI n lo = -(-n / 2 ^ lo) := by unfold cutI; rw [if_pos h]
    rw [ec]
    clear ec k key
    go_enter Try.func40, Try.ntmps40
    go_wp2
    go_ret
    exact ⟨rfl, rfl⟩
  · have hd : decide (n < 0) = false := decide_eq_false h
    have k := key n (by omega)
    have e3 := i64_in (n / 2 ^ lo) (by omega)
    have ec : cutI n lo = n / 2 ^ lo := by unfold cutI; rw [if_neg h]
    rw [ec]
    clear ec k key
    go_enter Try.func40, Try.ntmps40
    go_wp2
    go_ret
    exact ⟨rfl, rfl⟩

theorem specLevel13 (ao : Option Addr) (n cap : Nat) (zs : List Int) (w : World) (hr : Rd .i64 w ao n zs) (b : Bool) (hb : Hid (levB (-16383) 16383 zs = b)) :
    Calls Try.prog 38 #[.slice ao n cap] w fun e w' => e = .returned (.bool b) ∧ w.grownBy w' none := by
  have HR := hide hr
  clear hr
  go_enter Try.func38, Try.ntmps38
  go_wp2_with fail
  refine (specLev ao n cap zs (-16383) 16383 w (unhide HR) b hb).mono ?_
  rintro e w1 ⟨rfl, g1⟩
  go_wp2
  go_ret
  exact ⟨rfl, g1⟩

theorem step_append_intS {w : World} {ops : Array Oper} {o : Oper} {a : Act} {K : Act → World → Prop} {Q : Exit → Act → World → Prop} {E : Prop} (hgd : o.guard = none) (s x : Operand)
    (ho : o.op = .call { callee := .builtin .append, args := #[s, x], argTypes := #[24, 24] })
    (base : Nat) (v : Value) (L : List Int) (hs : a.eval s = v) (hown : w.ownsRow base 3 1 v L.length (L.map (Value.int .i64))) (t : Int) (hx : a.eval x = .slice (some ⟨w.heap.size, 0, none⟩) 1 1) (hb : L.length ≤ 900000) (hbase : base ≤ w.heap.size) (R : List Int) (hR : L ++ [t] = R)
    (h : ∀ v' w', w'.ownsRow base 3 1 v' R.length (R.map (Value.int .i64)) → w.grownBy w' v.ownBlock → (v'.ownBlock = v.ownBlock ∨ ∀ g, v'.ownBlock = some g → w.heap.size ≤ g) → K (a.put o.dst v') w') :
    if Region.wanted o (yielded ops a.tmps) = true then Oper.wp Try.prog o a (w.alloc (.cells #[.int .i64 t] 3)) K Q else E := by
  subst hR
  obtain ⟨i0, hi, hz0, hz1, hz2⟩ := info_parts info_iS
  refine step_append_lies _ hgd s x 24 ho base 3 i0 (.int .i64 0) 1 8 Try.underlying24 hi hz0 hz1 hz2 rfl (by decide) v L.length _ hs (hown.alloc _) ⟨w.heap.size, 0, none⟩ 1 1 [.int .i64 t] hx rfl (World.news_of_block (cs := #[.int .i64 t]) (t := 3) (fr := (0, 0)) (heap_alloc_new w _)) (by intro u hu; simp at hu; subst hu; rfl) (by omega) (by unfold maxLen; omega) (by omega) (by simp; omega) _ rfl ?_
  intro g cap w' h1 h2 h4 _
  refine h _ w' (by rw [List.map_append, List.length_append]; exact h1) ⟨h2.os, h2.tape, h2.output, by have h := h2.size; simp at h; omega, fun k hk hr => (h2.block k (by simp; omega) hr).trans (Below.heap_alloc _ _ _ hk)⟩ ?_
  rcases h4 with h4 | h4
  · exact .inl h4.symm
  · refine .inr fun q e => ?_
    have e2 : g = q := Option.some.inj e
    simp at h4
    omega

end Go.Proofs.Ytfgglainjaplgaa

namespace Go.Proofs.Ytfgglainjaplgaa
open Go.RowKit

/-- A list while it is made, beside the scan in its box and the block's numbers in the order of waves. -/
structure Fo (w wr : World) (sx : Array Value) (v : Value) (A : List Int) (zb zc : Nat) (Z : List Int) : Prop where
  sc : wr.heap[w.heap.size]? = some (.cells sx 26 (0, 0))
  own : wr.ownsRow (w.heap.size + 1) 3 1 v A.length (A.map (Value.int .i64))
  zs : wr.ownsRow (w.heap.size + 1) 3 1 (.slice (some ⟨zb, 0, none⟩) 64 zc) 64 (Z.map (Value.int .i64))
  ne : ∀ g, v.ownBlock = some g → g ≠ zb
  grown : w.grownBy wr none
theorem Fo.size {w wr : World} {sx : Array Value} {v : Value} {A : List Int} {zb zc : Nat} {Z : List Int} (h : Fo w wr sx v A zb zc Z) : w.heap.size + 1 ≤ wr.heap.size := (Array.getElem?_eq_some_iff.1 h.sc).1
theorem Fo.new {w wr w' : World} {sx : Array Value} {v : Value} {A : List Int} {zb zc : Nat} {Z : List Int} (h : Fo w wr sx v A zb zc Z) (g : wr.grownBy w' none) : Fo w w' sx v A zb zc Z :=
  ⟨at_rowS g h.sc (by simp), own_grown h.own g, own_grown h.zs g, h.ne, grown_trans h.grown g⟩
theorem Fo.more {w wr w' : World} {sx : Array Value} {v v' : Value} {A B : List Int} {zb zc : Nat} {Z : List Int} (h : Fo w wr sx v A zb zc Z) (o : w'.ownsRow (w.heap.size + 1) 3 1 v' B.length (B.map (Value.int .i64))) (g : wr.grownBy w' v.ownBlock) (hat : v'.ownBlock = v.ownBlock ∨ ∀ g, v'.ownBlock = some g → wr.heap.size ≤ g) : Fo w w' sx v' B zb zc Z := by
  refine ⟨at_rowS g h.sc (fun e => by have := (h.own.lt _ e).1; omega), o, own_beneath h.zs g (fun p q h1 h2 e => ?_), fun q e => ?_, grown_new h.grown g (fun q e => by have := (h.own.lt _ e).1; omega)⟩
  · have e1 : zb = p := Option.some.inj h1
    exact h.ne q h2 (by omega)
  · rcases hat with h1 | h1
    · exact h.ne q (by rw [← h1]; exact e)
    · have h2 := h1 q e
      have h3 := (h.zs.lt zb rfl).2
      omega
theorem Fo.at {w wr : World} {sx : Array Value} {v : Value} {A : List Int} {zb zc : Nat} {Z : List Int} (h : Fo w wr sx v A zb zc Z) (hZ : Z.length = 64) (k : Nat) (hk : k < 64) : wr.cell? ⟨zb, k, none⟩ = some (.int .i64 (Z.getD k 0)) := by
  rw [h.zs.cellAt k (by omega)]
  simp [hZ, hk]
theorem zigged_len (zs : List Int) : (zigged zs).length = 64 := made_len _
theorem lev_nums {zs : List Int} (h : levB (-16383) 16383 zs = true) : numsB (-32767) 32767 zs = true := by
  obtain ⟨h1, h2⟩ := lev_at h
  exact nums_all h1 (fun j hj => by have := h2 j hj; omega)

set_option maxRecDepth 20000 in
set_option maxHeartbeats 1600000 in
theorem specFirstOf (ao : Option Addr) (n cap : Nat) (zs : List Int) (w : World) (hr : Rd .i64 w ao n zs) (vo : Option Addr) (vn vc : Nat) (a : Scn) (L : List Int) (HL : Hid (firstG zs a = L)) :
    Calls Try.prog 14 #[.slice ao n cap, .agg #[.slice vo vn vc, .int .i64 a.fr, .int .i64 a.to, .int .i64 a.hi, .int .i64 a.lo]] w fun e w' => ∃ so sc, e = .returned (.slice so L.length sc) ∧ w'.ownsRow w.heap.size 3 1 (.slice so L.length sc) L.length (L.map (Value.int .i64)) ∧ w.grownBy w' none := by
  obtain ⟨b1, HB1⟩ : ∃ b, Hid (levB (-16383) 16383 zs = b) := ⟨_, rfl⟩
  obtain ⟨b2, HB2⟩ : ∃ b, Hid (passB a = b) := ⟨_, rfl⟩
  have HBITS := hide (fun W => specBits W vo vn vc a b2 HB2)
  have hp := unhide HL
  unfold firstG at hp
  rw [unhide HB1, unhide HB2] at hp
  have hpin : b2 = true → 0 ≤ a.fr ∧ a.fr ≤ a.to ∧ a.to ≤ 63 ∧ 0 ≤ a.lo ∧ a.lo ≤ 13 := fun e => by
    have h := unhide HB2
    rw [e] at h
    unfold passB at h
    simp only [Bool.and_eq_true, decide_eq_true_eq] at h
    omega
  have epl : placesOf a = (a.to - a.fr + 1).toNat := rfl
  rw [epl] at hp
  obtain ⟨cs, fr, to, hi, lo⟩ := a
  dsimp only at HBITS hp hpin ⊢
  obtain ⟨W2, HW2⟩ : ∃ W2, Hid ((w.alloc (.cells #[.slice vo vn vc, .int .i64 fr, .int .i64 to, .int .i64 hi, .int .i64 lo] 26)).alloc (.cells #[] 3) = W2) := ⟨_, rfl⟩
  have G0 : w.grownBy W2 none := by rw [← unhide HW2]; exact grown_alloc (grown_alloc (World.grownBy.refl _ _) _) _
  have HB0 : Hid (W2.heap[w.heap.size]? = some (.cells #[.slice vo vn vc, .int .i64 fr, .int .i64 to, .int .i64 hi, .int .i64 lo] 26 (0, 0))) := by
    rw [← unhide HW2]
    exact at_rowS (World.grownBy_alloc _ _ none) (heap_alloc_new w _) (by simp)
  have HO0 : Hid (W2.ownsRow (w.heap.size + 1) 3 1 (.slice (some ⟨w.heap.size + 1, 0, none⟩) 0 0) 0 []) := by
    rw [← unhide HW2]
    have := World.ownsRow_lit (w.alloc (.cells #[.slice vo vn vc, .int .i64 fr, .int .i64 to, .int .i64 hi, .int .i64 lo] 26)) (e := 3) (size := 1) (base := w.heap.size + 1) #[] 0 (by simp) (by unfold maxLen; omega) rfl
    unfold Hid
    simpa using this
  have HLV := hide (specLevel13 ao n cap zs W2 (hr.grown G0) b1 HB1)
  have HR := hide hr
  have HG0 := hide G0
  have HP := hide hp
  have HPIN := hide hpin
  clear hr G0 hp hpin epl HL
  go_enter Try.func14, Try.ntmps14
  go_wp2_with fail
  rw [unhide HW2]
  clear HW2
  refine (unhide HLV).mono ?_
  rintro e w3 ⟨rfl, g3⟩
  have HG3 := hide (grown_trans (unhide HG0) g3)
  have HB3 := hide (at_rowS g3 (unhide HB0) (by simp))
  have HO3 := hide (own_grown (unhide HO0) g3)
  clear g3 HG0 HB0 HO0 HLV
  have HNIL : Hid (∀ W, w3.grownBy W none → L = [] → ∃ so sc, Ending.returned (.slice (some ⟨w.heap.size + 1, 0, none⟩) 0 0) = .returned (.slice so L.length sc) ∧ W.ownsRow w.heap.size 3 1 (.slice so L.length sc) L.length (L.map (Value.int .i64)) ∧ w.grownBy W none) := fun W g e => by
    subst e
    exact ⟨_, _, rfl, own_base (own_grown (unhide HO3) g) (by omega), grown_trans (unhide HG3) g⟩
  cases b1 with
  | false =>
    have HN := hide (unhide HNIL w3 (World.grownBy.refl _ _) (unhide HP).symm)
    go_wp2
    go_ret
    exact unhide HN
  | true =>
    obtain ⟨c0, c1, c2, c3, c4⟩ := scanCells (unhide HB3)
    go_wp2_with fail
    clear c0 c1 c2 c3 c4
    refine (unhide HBITS w3).mono ?_
    rintro e w4 ⟨rfl, g4⟩
    have HB4 := hide (at_rowS g4 (unhide HB3) (by simp))
    have HG4 := hide g4
    clear g4 HBITS
    obtain ⟨c0, c1, c2, c3, c4⟩ := scanCells (unhide HB4)
    cases b2 with
    | false =>
      have HN := hide (unhide HNIL w4 (unhide HG4) (unhide HP).symm)
      go_wp2
      go_ret
      exact unhide HN
    | true =>
      by_cases h0 : hi = 0
      · have n0 : (hi == 0) = true := by simp [h0]
        have HP2 : Hid (firstL (zigged zs) fr.toNat (to - fr + 1).toNat lo.toNat = L) := by
          have h := unhide HP
          rw [decide_eq_true h0] at h
          exact h
        obtain ⟨p1, p2, p3, p4, p5⟩ := unhide HPIN rfl
        obtain ⟨k0, rfl⟩ := Int.eq_ofNat_of_zero_le p1
        obtain ⟨k1, rfl⟩ := Int.eq_ofNat_of_zero_le (show 0 ≤ to by omega)
        obtain ⟨l0, rfl⟩ := Int.eq_ofNat_of_zero_le p4
        have em : ((k1 : Int) - (k0 : Int) + 1).toNat = k1 + 1 - k0 := by omega
        rw [em, Int.toNat_natCast, Int.toNat_natCast] at HP2
        have HTZ := hide (specToZig ao n cap zs w4 ((unhide HR).grown (grown_trans (unhide HG3) (unhide HG4))) true (lev_nums (unhide HB1)) (zigged zs) rfl)
        clear h0 em HNIL HP HPIN
        go_wp2_with fail
        clear c0 c1 c2 c3 c4 n0
        refine (unhide HTZ).mono ?_
        rintro e w5 ⟨zo, zc, rfl, o5, g5⟩
        rw [zigged_len] at o5 ⊢
        obtain ⟨zb, rfl, hzb, _⟩ := own_at o5 (by omega)
        obtain ⟨Z, HZ⟩ : ∃ Z, Hid (zigged zs = Z) := ⟨_, rfl⟩
        have HZL : Hid (Z.length = 64) := by rw [← unhide HZ]; exact zigged_len zs
        have HLZ : Hid (∀ j, j < 64 → -16383 ≤ Z.getD j 0 ∧ Z.getD j 0 ≤ 16383) := fun j hj => by
          rw [← unhide HZ]
          unfold zigged
          rw [made_at _ j hj]
          exact (lev_at (unhide HB1)).2 _ (zz_lt j hj)
        rw [unhide HZ] at o5 HP2
        have hs3 : w.heap.size + 1 < w3.heap.size := ((unhide HO3).lt _ rfl).2
        have hs4 := (unhide HG4).size
        have HF5 : Hid (Fo w w5 #[.slice vo vn vc, .int .i64 k0, .int .i64 k1, .int .i64 hi, .int .i64 l0] (.slice (some ⟨w.heap.size + 1, 0, none⟩) 0 0) [] zb zc Z) :=
          ⟨at_rowS g5 (unhide HB4) (by simp), own_grown (own_grown (unhide HO3) (unhide HG4)) g5, own_base o5 (by omega), fun g e => by have e1 : w.heap.size + 1 = g := Option.some.inj e; omega, grown_trans (grown_trans (unhide HG3) (unhide HG4)) g5⟩
        clear o5 g5 HTZ HG3 HO3 HB3 HG4 HB4 hzb hs3 hs4 HZ
        obtain ⟨c0, c1, c2, c3, c4⟩ := scanCells (unhide HF5).sc
        go_wp2
        clear c0 c1 c2 c3 c4
        go_loopw [5, 7] (fun ov kv wr => ∃ (m : Nat) (so : Option Addr) (sc : Nat), m ≤ k1 + 1 - k0 ∧ kv = .int .i64 (k0 + m : Nat) ∧ ov = .slice so m sc ∧ Hid (Fo w wr #[.slice vo vn vc, .int .i64 k0, .int .i64 k1, .int .i64 hi, .int .i64 l0] (.slice so m sc) (firstL Z k0 m l0) zb zc Z)) (fun _ kv _ => k1 + 1 - (intOf kv).toNat)
        case atStart => exact ⟨0, _, _, Nat.zero_le _, rfl, rfl, HF5⟩
        case round =>
          clear HF5
          obtain ⟨m, so, sc, hm, rfl, rfl, hF⟩ := hrel
          obtain ⟨d0, d1, d2, d3, d4⟩ := scanCells (unhide hF).sc
          by_cases hlt : m < k1 + 1 - k0
          · obtain ⟨kk, HKK⟩ : ∃ kk, Hid (k0 + m = kk) := ⟨_, rfl⟩
            have hkk : kk ≤ k1 := by have := unhide HKK; omega
            have hd : decide ((kk : Int) ≤ (k1 : Int)) = true := decide_eq_true (by omega)
            have i0 : (0 : Int) ≤ (kk : Int) := by omega
            have i1 : (kk : Int) < 64 := by omega
            rw [unhide HKK]
            have zc1 := (unhide hF).at (unhide HZL) kk (by omega)
            have hlev := unhide HLZ kk (by omega)
            obtain ⟨A, HA⟩ : ∃ A, Hid (firstL Z k0 m l0 = A) := ⟨_, rfl⟩
            obtain ⟨R, HRR⟩ : ∃ R, Hid (firstL Z k0 (m + 1) l0 = R) := ⟨_, rfl⟩
            have HAL : Hid (A.length = m) := by unfold Hid; rw [← unhide HA]; simp [firstL]
            have HRL : Hid (R.length = m + 1) := by unfold Hid; rw [← unhide HRR]; simp [firstL]
            have HNX : Hid (A ++ [cutI (Z.getD kk 0) l0] = R) := by
              unfold Hid
              rw [← unhide HA, ← unhide HRR, ← unhide HKK]
              unfold firstL
              rw [List.range_succ, List.map_append]
              rfl
            generalize Z.getD kk 0 = zv at zc1 hlev HNX
            have HCUT := hide (fun W => specCut zv l0 (by omega) (by omega) W)
            obtain ⟨cv, HCV⟩ : ∃ cv, Hid (cutI zv l0 = cv) := ⟨_, rfl⟩
            rw [unhide HCV] at HCUT HNX
            rw [unhide HA] at hF
            have hsz := (unhide hF).size
            have HFD := hide ((unhide hF).new (grown_drew (World.grownBy.refl wr none)))
            have HZB : Hid (∀ g, Value.ownBlock (.slice so m sc) = some g → g ≠ zb) := (unhide hF).ne
            clear HA hlev HCV
            go_wp2
            refine wp_region_noPanic ?_
            refine wp_region_tail (fun W => W.cell? ⟨zb, kk, none⟩ = some (.int .i64 zv) ∧ W.cell? ⟨w.heap.size, 4, none⟩ = some (.int .i64 l0)) [true, true, true, true, true, true, true, false, false, false, false] (by kernel_rfl) (fun _ _ _ _ _ h => h) rfl (by kernel_rfl) ⟨zc1, d4⟩ ?_
            iterate 7
              refine heldF_take (v := ?_) (Or.inl ⟨by rfl, ?_⟩) ?_
              rotate_left 1
              · intro w' hSw
                try dsimp only at hSw
                obtain ⟨y1, y2⟩ := hSw
                go_simp
                try with_reducible rfl
              simp only [Act.put, List.setIfInBounds_toArray, List.set_cons_zero, List.set_cons_succ]
            refine heldF_skip (heldF_skip (heldF_skip (heldF_skip (heldF_nil ?_))))
            iterate 7 refine tailF_skip ?_
            refine tailF_step (fun K hK => ?_)
            go_simp
            refine (unhide HCUT _).mono ?_
            rintro e w3 ⟨rfl, rfl⟩
            refine hK.out _ _ ⟨zc1, d4⟩ ?_
            clear hK K
            refine tailF_step (fun K hK => ?_)
            go_simp
            have gA := World.grownBy_alloc wr.drew (.cells #[.int .i64 cv] 3) none
            refine hK.out _ _ ⟨gA.cell zc1 (by simp), gA.cell d4 (by simp)⟩ ?_
            clear hK K gA
            refine tailF_step (fun K hK => ?_)
            refine step_append_intS (w := wr.drew) (by rfl) _ _ (by rfl) (w.heap.size + 1) (.slice so m sc) A (by rfl) (unhide HFD).own cv (by rfl) (by rw [unhide HAL]; omega) hsz R (unhide HNX) ?_
            intro v4 w4 o4 g4 hat4
            have HF4 := hide ((unhide HFD).more o4 g4 hat4)
            have hk1 : w4.cell? ⟨zb, kk, none⟩ = some (.int .i64 zv) := g4.cell zc1 (fun e => unhide HZB zb e.symm rfl)
            have hk2 : w4.cell? ⟨w.heap.size, 4, none⟩ = some (.int .i64 l0) := (scanCells (unhide HF4).sc).2.2.2.2
            refine hK.out _ _ ⟨hk1, hk2⟩ ?_
            clear hK K
            rw [unhide HRL] at o4
            obtain ⟨so4, sc4, rfl⟩ := own_form o4
            try simp only [Act.put, List.setIfInBounds_toArray, List.set_cons_zero, List.set_cons_succ]
            refine tailF_step (fun K hK => ?_)
            go_simp
            refine hK.out _ _ ⟨hk1, hk2⟩ ?_
            clear hK K
            refine tailF_nil (NoPanic.normal ?_)
            rw [← unhide HRR] at HF4
            clear o4 g4 hat4 hk1 hk2 d0 d1 d2 d3 d4 zc1 HFD hF HNX HAL HRL HRR HCUT
            go_wp2
            go_roundw
            case rel => exact ⟨m + 1, so4, sc4, by omega, by rw [show k0 + (m + 1) = kk + 1 by have := unhide HKK; omega]; go_num, rfl, HF4⟩
            case measure => have := unhide HKK; simp [intOf]; omega
          · obtain rfl : m = k1 + 1 - k0 := by omega
            have hd : decide (((k0 + (k1 + 1 - k0) : Nat) : Int) ≤ (k1 : Int)) = false := decide_eq_false (by omega)
            rw [unhide HP2] at hF
            have hLl : L.length = k1 + 1 - k0 := by rw [← unhide HP2]; simp [firstL]
            have HRES : Hid (∃ so' sc', Ending.returned (.slice so (k1 + 1 - k0) sc) = .returned (.slice so' L.length sc') ∧ wr.ownsRow w.heap.size 3 1 (.slice so' L.length sc') L.length (L.map (Value.int .i64)) ∧ w.grownBy wr none) := by
              refine ⟨so, sc, by rw [hLl], ?_, (unhide hF).grown⟩
              have h := (unhide hF).own
              rw [← hLl] at h
              exact own_base h (by omega)
            clear hLl hF
            go_wp2
            go_ret
            exact unhide HRES
      · have n0 : (hi == 0) = false := by simp [h0]
        have e : L = [] := by
          have h := unhide HP
          rw [decide_eq_false h0] at h
          exact h.symm
        have HN := hide (unhide HNIL w4 (unhide HG4) e)
        go_wp2
        go_ret
        exact unhide HN

end Go.Proofs.Ytfgglainjaplgaa

namespace Go.Proofs.Ytfgglainjaplgaa

/-- How often a number can be halved until it is 0. -/
def cls (a : Nat) : Nat := if a = 0 then 0 else Nat.log2 a + 1
theorem cls_zero : cls 0 = 0 := rfl
theorem cls_half {a : Nat} (h : a ≠ 0) : cls a = cls (a / 2) + 1 := by
  unfold cls
  rw [if_neg h]
  by_cases h2 : a / 2 = 0
  · obtain rfl : a = 1 := by omega
    rfl
  · rw [if_neg h2, Nat.log2_def, if_pos (by omega)]
theorem cls_lt (a : Nat) : a < 2 ^ cls a := by
  unfold cls
  by_cases h : a = 0
  · subst h; decide
  · rw [if_neg h]; exact Nat.lt_log2_self
theorem cls_ge {a : Nat} (h : a ≠ 0) : 2 ^ (cls a - 1) ≤ a := by
  unfold cls
  rw [if_neg h, Nat.add_sub_cancel]
  exact Nat.log2_self_le h
theorem cls_pos {a : Nat} : 0 < cls a ↔ a ≠ 0 := by
  unfold cls
  by_cases h : a = 0
  · simp [h]
  · simp [h]
theorem cls_le {a : Nat} (h : a ≤ 32767) : cls a ≤ 15 := by
  unfold cls
  by_cases h0 : a = 0
  · simp [h0]
  · rw [if_neg h0]
    have := (Nat.log2_lt h0 (k := 15)).2 (by omega)
    omega

/-- A number of at most 32767, whatever its sign. -/
def coefB (n : Int) : Bool := decide (-32767 ≤ n ∧ n ≤ 32767)
def classI (n : Int) : Int := if coefB n then (cls n.natAbs : Int) else -1
def bitsI (n : Int) : Int := if coefB n then (if n < 0 then n + 2 ^ cls n.natAbs - 1 else n) else -1
def numI (s b : Int) : Int :=
  if (0 ≤ s ∧ s ≤ 15) ∧ (0 ≤ b ∧ b ≤ 2 ^ s.toNat - 1) then (if 0 < s ∧ b < 2 ^ (s.toNat - 1) then b - 2 ^ s.toNat + 1 else b) else 0

theorem pow_step {k : Nat} (h : 0 < k) : (2 : Int) ^ k = 2 * 2 ^ (k - 1) := by
  obtain ⟨j, rfl⟩ : ∃ j, k = j + 1 := ⟨k - 1, by omega⟩
  rw [Nat.add_sub_cancel, Int.pow_succ, Int.mul_comm]
theorem pow_cast (k : Nat) : ((2 ^ k : Nat) : Int) = (2 : Int) ^ k := by simp
theorem class_bounds {n : Int} (h : coefB n = true) : 0 ≤ classI n ∧ classI n ≤ 15 ∧ (classI n).toNat = cls n.natAbs := by
  have hc := h
  simp only [coefB, decide_eq_true_eq] at h
  have := cls_le (a := n.natAbs) (by omega)
  unfold classI
  rw [if_pos hc]
  omega
theorem bits_bounds {n : Int} (h : coefB n = true) : 0 ≤ bitsI n ∧ bitsI n < 2 ^ cls n.natAbs := by
  have h1 := cls_lt n.natAbs
  have h2 := pow_cast (cls n.natAbs)
  unfold bitsI
  rw [if_pos h]
  split
  · omega
  · omega
theorem class_zero {n : Int} (h : coefB n = true) : classI n = 0 ↔ n = 0 := by
  have hp := cls_pos (a := n.natAbs)
  unfold classI
  rw [if_pos h]
  omega
/-- A number is got back from its class and bits. -/
theorem num_back {n : Int} (h : coefB n = true) : numI (classI n) (bitsI n) = n := by
  obtain ⟨c0, c1, c2⟩ := class_bounds h
  obtain ⟨b0, b1⟩ := bits_bounds h
  have h1 := cls_lt n.natAbs
  have p0 := pow_cast (cls n.natAbs)
  unfold numI
  rw [c2, if_pos ⟨⟨c0, c1⟩, b0, by omega⟩]
  by_cases hn : n = 0
  · subst hn
    have e : classI 0 = 0 := (class_zero h).2 rfl
    have e2 : bitsI 0 = 0 := rfl
    rw [e, e2, if_neg (by omega)]
  · have hne : n.natAbs ≠ 0 := by omega
    have h2 := cls_ge hne
    have hk : 0 < cls n.natAbs := cls_pos.2 hne
    have p1 := pow_cast (cls n.natAbs - 1)
    have p2 := pow_step hk
    have hcp : 0 < classI n := by omega
    unfold bitsI
    rw [if_pos h]
    by_cases hs : n < 0
    · rw [if_pos hs, if_pos ⟨hcp, by omega⟩]; omega
    · rw [if_neg hs, if_neg (by omega)]

/-- An item: a run, a size, bits. -/
abbrev It := Int × Int × Int
/-- The items of a list, of which so many noughts have gone before. -/
def runsGo : Nat → List Int → List It
  | run, [] => if 0 < run then [(0, 0, 0)] else []
  | run, x :: xs => if x = 0 then runsGo (run + 1) xs else List.replicate (run / 16) (15, 0, 0) ++ (((run % 16 : Nat) : Int), classI x, bitsI x) :: runsGo 0 xs
def coefsB (xs : List Int) : Bool := decide (xs.length ≤ 64) && xs.all coefB
def runsG (xs : List Int) : List It := if coefsB xs then runsGo 0 xs else []

theorem runsGo_len : ∀ (run : Nat) (xs : List Int), (runsGo run xs).length ≤ run + xs.length
  | run, [] => by
    unfold runsGo
    split
    · simp; omega
    · simp
  | run, x :: xs => by
    unfold runsGo
    split
    · have := runsGo_len (run + 1) xs
      simp; omega
    · have := runsGo_len 0 xs
      simp; omega

/-- One item put behind what has been got. -/
def putIt (n : Nat) (out : List Int) (x : It) : List Int :=
  if x.2.1 = 0 ∧ x.1 = 0 then out ++ List.replicate (n - out.length) 0
  else
    let o := out ++ List.replicate (min x.1.toNat (n + 1 - out.length)) 0
    if o.length ≤ n then o ++ [numI x.2.1 x.2.2] else o
def putIts (n : Nat) (out : List Int) (xs : List It) : List Int := xs.foldl (putIt n) out
theorem putIts_app (n : Nat) (out : List Int) (xs ys : List It) : putIts n out (xs ++ ys) = putIts n (putIts n out xs) ys := List.foldl_append ..

theorem num_zero : numI 0 0 = 0 := rfl
theorem put_sixteen {n : Nat} {out : List Int} (h : out.length + 16 ≤ n) : putIt n out (15, 0, 0) = out ++ List.replicate 16 0 := by
  unfold putIt
  rw [if_neg (by decide)]
  have e : min (15 : Int).toNat (n + 1 - out.length) = 15 := by
    show min 15 _ = 15
    omega
  simp only [e]
  rw [if_pos (by simp; omega), num_zero, List.append_assoc]
  rfl
theorem puts_sixteen {n : Nat} : ∀ (k : Nat) (out : List Int), out.length + 16 * k ≤ n → putIts n out (List.replicate k (15, 0, 0)) = out ++ List.replicate (16 * k) 0
  | 0, out, _ => by simp [putIts]
  | k + 1, out, h => by
    rw [List.replicate_succ]
    show putIts n (putIt n out (15, 0, 0)) _ = _
    rw [put_sixteen (by omega), puts_sixteen k _ (by simp; omega), List.append_assoc, List.replicate_append_replicate]
    congr 2
    omega
/-- A list is got back from its items. -/
theorem puts_back {n : Nat} : ∀ (xs : List Int) (run : Nat) (out : List Int), xs.all coefB = true → out.length + run + xs.length = n → putIts n out (runsGo run xs) = out ++ List.replicate run 0 ++ xs
  | [], run, out, _, h => by
    unfold runsGo
    split
    · show putIt n out (0, 0, 0) = _
      unfold putIt
      rw [if_pos ⟨rfl, rfl⟩, List.append_nil]
      congr 2
      simp at h; omega
    · obtain rfl : run = 0 := by omega
      simp [putIts]
  | x :: xs, run, out, hc, h => by
    rw [List.all_cons, Bool.and_eq_true] at hc
    rw [List.length_cons] at h
    unfold runsGo
    split
    · rename_i hx
      subst hx
      rw [puts_back xs (run + 1) out hc.2 (by omega), List.replicate_succ', List.append_assoc, List.append_assoc, List.append_assoc]
      rfl
    · rename_i hx
      rw [putIts_app, puts_sixteen (run / 16) out (by omega)]
      show putIts n (putIt n _ _) _ = _
      have hk : ¬ (classI x = 0 ∧ ((run % 16 : Nat) : Int) = 0) := fun h2 => hx ((class_zero hc.1).1 h2.1)
      have e1 : putIt n (out ++ List.replicate (16 * (run / 16)) 0) (((run % 16 : Nat) : Int), classI x, bitsI x) = out ++ List.replicate run 0 ++ [x] := by
        unfold putIt
        rw [if_neg hk]
        have e : min (((run % 16 : Nat) : Int)).toNat (n + 1 - (out ++ List.replicate (16 * (run / 16)) (0 : Int)).length) = run % 16 := by
          rw [Int.toNat_natCast]; simp; omega
        simp only [e]
        rw [if_pos (by simp; omega), num_back hc.1, List.append_assoc out, List.replicate_append_replicate]
        congr 3
        omega
      rw [e1, puts_back xs 0 _ hc.2 (by simp; omega)]
      simp

/-- The list that items are those of, if there is one of n numbers. -/
def fromG (items : List It) (n : Int) : List Int × Bool :=
  if (0 ≤ n ∧ n ≤ 64) ∧ items.length ≤ 64 ∧ (putIts n.toNat [] items).length = n.toNat ∧ runsG (putIts n.toNat [] items) = items then (putIts n.toNat [] items, true) else ([], false)
theorem from_runs {xs : List Int} (h : coefsB xs = true) : fromG (runsG xs) xs.length = (xs, true) := by
  have hc := h
  simp only [coefsB, Bool.and_eq_true, decide_eq_true_eq] at h
  have e : runsG xs = runsGo 0 xs := by unfold runsG; rw [if_pos hc]
  have hl := runsGo_len 0 xs
  have hb : putIts xs.length [] (runsGo 0 xs) = xs := by
    have := puts_back xs 0 [] h.2 (n := xs.length) (by simp)
    simpa using this
  unfold fromG
  rw [Int.toNat_natCast, e, hb, e, if_pos ⟨by omega, by omega, rfl, rfl⟩]
/-- What is got from items has them: whoever finds such a list finds this one. -/
theorem from_only {items : List It} {n : Nat} {xs : List Int} (hx : coefsB xs = true) (hl : xs.length = n) (hr : runsGo 0 xs = items) : fromG items n = (xs, true) := by
  have e : runsG xs = items := by unfold runsG; rw [if_pos hx]; exact hr
  rw [← e, ← hl]
  exact from_runs hx
theorem from_none {items : List It} {n : Int} (h : ∀ xs : List Int, (xs.length : Int) = n → runsG xs = items → False) : fromG items n = ([], false) := by
  unfold fromG
  split
  · rename_i hh
    exact (h _ (by omega) hh.2.2.2).elim
  · rfl

end Go.Proofs.Ytfgglainjaplgaa

namespace Go.Proofs.Ytfgglainjaplgaa
open Go.RowKit

theorem specAbs (n : Int) (hn : -32767 ≤ n ∧ n ≤ 32767) (w : World) :
    Calls Try.prog 42 #[.int .i64 n] w fun e w' => e = .returned (.int .i64 (n.natAbs : Int)) ∧ w' = w := by
  by_cases h : n < 0
  · have e1 := i64_in (-n) (by omega)
    go_enter Try.func42, Try.ntmps42
    go_wp2
    go_ret
    exact ⟨ret_int (by omega), rfl⟩
  · go_enter Try.func42, Try.ntmps42
    go_wp2
    go_ret
    exact ⟨ret_int (by omega), rfl⟩

theorem pow_fit {k : Nat} (h : k ≤ 15) : 1 ≤ (2 : Int) ^ k ∧ (2 : Int) ^ k ≤ 32768 := by
  have h1 : (2 : Nat) ^ k ≤ 2 ^ 15 := Nat.pow_le_pow_right (by omega) h
  have h2 : 0 < (2 : Nat) ^ k := Nat.pow_pos (by omega)
  have h3 := pow_cast k
  omega

end Go.Proofs.Ytfgglainjaplgaa

namespace Go.Proofs.Ytfgglainjaplgaa
open Go.RowKit

theorem and1_shr13 (a i : Nat) (ha : a ≤ 32767) : bits BinOp.and IntKind.i64 ((a : Int) / 2 ^ i) 1 = ((a / 2 ^ i % 2 : Nat) : Int) := by
  have e : (a : Int) / 2 ^ i = ((a / 2 ^ i : Nat) : Int) := by simp
  have hle : a / 2 ^ i ≤ a := Nat.div_le_self _ _
  rw [e]
  generalize a / 2 ^ i = q at hle
  rw [and1_i64 _ (by omega) (by omega)]
  omega

set_option maxRecDepth 20000 in
set_option maxHeartbeats 1600000 in
theorem specRefineOf (ao : Option Addr) (n cap : Nat) (zs : List Int) (w : World) (hr : Rd .i64 w ao n zs) (vo : Option Addr) (vn vc : Nat) (a : Scn) (L : List Int) (HL : Hid (refineG zs a = L)) :
    Calls Try.prog 17 #[.slice ao n cap, .agg #[.slice vo vn vc, .int .i64 a.fr, .int .i64 a.to, .int .i64 a.hi, .int .i64 a.lo]] w fun e w' => ∃ so sc, e = .returned (.slice so L.length sc) ∧ w'.ownsRow w.heap.size 3 1 (.slice so L.length sc) L.length (L.map (Value.int .i64)) ∧ w.grownBy w' none := by
  obtain ⟨b1, HB1⟩ : ∃ b, Hid (levB (-16383) 16383 zs = b) := ⟨_, rfl⟩
  obtain ⟨b2, HB2⟩ : ∃ b, Hid (passB a = b) := ⟨_, rfl⟩
  have HBITS := hide (fun W => specBits W vo vn vc a b2 HB2)
  have hp := unhide HL
  unfold refineG at hp
  rw [unhide HB1, unhide HB2] at hp
  have hpin : b2 = true → 0 ≤ a.fr ∧ a.fr ≤ a.to ∧ a.to ≤ 63 ∧ 0 ≤ a.lo ∧ a.lo ≤ 13 ∧ (a.hi = 0 ∨ a.hi = a.lo + 1) := fun e => by
    have h := unhide HB2
    rw [e] at h
    unfold passB at h
    simp only [Bool.and_eq_true, Bool.or_eq_true, decide_eq_true_eq] at h
    omega
  have epl : placesOf a = (a.to - a.fr + 1).toNat := rfl
  rw [epl] at hp
  obtain ⟨cs, fr, to, hi, lo⟩ := a
  dsimp only at HBITS hp hpin ⊢
  obtain ⟨W2, HW2⟩ : ∃ W2, Hid ((w.alloc (.cells #[.slice vo vn vc, .int .i64 fr, .int .i64 to, .int .i64 hi, .int .i64 lo] 26)).alloc (.cells #[] 3) = W2) := ⟨_, rfl⟩
  have G0 : w.grownBy W2 none := by rw [← unhide HW2]; exact grown_alloc (grown_alloc (World.grownBy.refl _ _) _) _
  have HB0 : Hid (W2.heap[w.heap.size]? = some (.cells #[.slice vo vn vc, .int .i64 fr, .int .i64 to, .int .i64 hi, .int .i64 lo] 26 (0, 0))) := by
    rw [← unhide HW2]
    exact at_rowS (World.grownBy_alloc _ _ none) (heap_alloc_new w _) (by simp)
  have HO0 : Hid (W2.ownsRow (w.heap.size + 1) 3 1 (.slice (some ⟨w.heap.size + 1, 0, none⟩) 0 0) 0 []) := by
    rw [← unhide HW2]
    have := World.ownsRow_lit (w.alloc (.cells #[.slice vo vn vc, .int .i64 fr, .int .i64 to, .int .i64 hi, .int .i64 lo] 26)) (e := 3) (size := 1) (base := w.heap.size + 1) #[] 0 (by simp) (by unfold maxLen; omega) rfl
    unfold Hid
    simpa using this
  have HLV := hide (specLevel13 ao n cap zs W2 (hr.grown G0) b1 HB1)
  have HR := hide hr
  have HG0 := hide G0
  have HP := hide hp
  have HPIN := hide hpin
  clear hr G0 hp hpin epl HL
  go_enter Try.func17, Try.ntmps17
  go_wp2_with fail
  rw [unhide HW2]
  clear HW2
  refine (unhide HLV).mono ?_
  rintro e w3 ⟨rfl, g3⟩
  have HG3 := hide (grown_trans (unhide HG0) g3)
  have HB3 := hide (at_rowS g3 (unhide HB0) (by simp))
  have HO3 := hide (own_grown (unhide HO0) g3)
  clear g3 HG0 HB0 HO0 HLV
  have HNIL : Hid (∀ W, w3.grownBy W none → L = [] → ∃ so sc, Ending.returned (.slice (some ⟨w.heap.size + 1, 0, none⟩) 0 0) = .returned (.slice so L.length sc) ∧ W.ownsRow w.heap.size 3 1 (.slice so L.length sc) L.length (L.map (Value.int .i64)) ∧ w.grownBy W none) := fun W g e => by
    subst e
    exact ⟨_, _, rfl, own_base (own_grown (unhide HO3) g) (by omega), grown_trans (unhide HG3) g⟩
  cases b1 with
  | false =>
    have HN := hide (unhide HNIL w3 (World.grownBy.refl _ _) (unhide HP).symm)
    go_wp2
    go_ret
    exact unhide HN
  | true =>
    obtain ⟨c0, c1, c2, c3, c4⟩ := scanCells (unhide HB3)
    go_wp2_with fail
    clear c0 c1 c2 c3 c4
    refine (unhide HBITS w3).mono ?_
    rintro e w4 ⟨rfl, g4⟩
    have HB4 := hide (at_rowS g4 (unhide HB3) (by simp))
    have HG4 := hide g4
    clear g4 HBITS
    obtain ⟨c0, c1, c2, c3, c4⟩ := scanCells (unhide HB4)
    cases b2 with
    | false =>
      have HN := hide (unhide HNIL w4 (unhide HG4) (unhide HP).symm)
      go_wp2
      go_ret
      exact unhide HN
    | true =>
      by_cases h0 : hi = 0
      · have n0 : (hi == 0) = true := by simp [h0]
        have e : L = [] := by
          have h := unhide HP
          rw [decide_eq_true h0] at h
          exact h.symm
        have HN := hide (unhide HNIL w4 (unhide HG4) e)
        go_wp2
        go_ret
        exact unhide HN
      · have n0 : (hi == 0) = false := by simp [h0]
        have HP2 : Hid (refineL (zigged zs) fr.toNat (to - fr + 1).toNat hi.toNat lo.toNat = L) := by
          have h := unhide HP
          rw [decide_eq_false h0] at h
          exact h
        obtain ⟨p1, p2, p3, p4, p5, p6⟩ := unhide HPIN rfl
        obtain ⟨k0, rfl⟩ := Int.eq_ofNat_of_zero_le p1
        obtain ⟨k1, rfl⟩ := Int.eq_ofNat_of_zero_le (show 0 ≤ to by omega)
        obtain ⟨l0, rfl⟩ := Int.eq_ofNat_of_zero_le p4
        obtain ⟨h9, rfl, HH9⟩ : ∃ h9 : Nat, hi = (h9 : Int) ∧ Hid (h9 = l0 + 1) := ⟨l0 + 1, by rcases p6 with h | h <;> omega, rfl⟩
        have em : ((k1 : Int) - (k0 : Int) + 1).toNat = k1 + 1 - k0 := by omega
        rw [em, Int.toNat_natCast, Int.toNat_natCast, Int.toNat_natCast] at HP2
        have HTZ := hide (specToZig ao n cap zs w4 ((unhide HR).grown (grown_trans (unhide HG3) (unhide HG4))) true (lev_nums (unhide HB1)) (zigged zs) rfl)
        clear h0 em HNIL HP HPIN
        go_wp2_with fail
        clear c0 c1 c2 c3 c4 n0
        refine (unhide HTZ).mono ?_
        rintro e w5 ⟨zo, zc, rfl, o5, g5⟩
        rw [zigged_len] at o5 ⊢
        obtain ⟨zb, rfl, hzb, _⟩ := own_at o5 (by omega)
        obtain ⟨Z, HZ⟩ : ∃ Z, Hid (zigged zs = Z) := ⟨_, rfl⟩
        have HZL : Hid (Z.length = 64) := by rw [← unhide HZ]; exact zigged_len zs
        have HLZ : Hid (∀ j, j < 64 → -16383 ≤ Z.getD j 0 ∧ Z.getD j 0 ≤ 16383) := fun j hj => by
          rw [← unhide HZ]
          unfold zigged
          rw [made_at _ j hj]
          exact (lev_at (unhide HB1)).2 _ (zz_lt j hj)
        rw [unhide HZ] at o5 HP2
        have hs3 : w.heap.size + 1 < w3.heap.size := ((unhide HO3).lt _ rfl).2
        have hs4 := (unhide HG4).size
        have HF5 : Hid (Fo w w5 #[.slice vo vn vc, .int .i64 k0, .int .i64 k1, .int .i64 h9, .int .i64 l0] (.slice (some ⟨w.heap.size + 1, 0, none⟩) 0 0) [] zb zc Z) :=
          ⟨at_rowS g5 (unhide HB4) (by simp), own_grown (own_grown (unhide HO3) (unhide HG4)) g5, own_base o5 (by omega), fun g e => by have e1 : w.heap.size + 1 = g := Option.some.inj e; omega, grown_trans (grown_trans (unhide HG3) (unhide HG4)) g5⟩
        clear o5 g5 HTZ HG3 HO3 HB3 HG4 HB4 hzb hs3 hs4 HZ
        obtain ⟨c0, c1, c2, c3, c4⟩ := scanCells (unhide HF5).sc
        go_wp2
        clear c0 c1 c2 c3 c4
        go_loopw [5, 7] (fun ov kv wr => ∃ (m : Nat) (so : Option Addr) (sc : Nat), m ≤ k1 + 1 - k0 ∧ kv = .int .i64 (k0 + m : Nat) ∧ ov = .slice so m sc ∧ Hid (Fo w wr #[.slice vo vn vc, .int .i64 k0, .int .i64 k1, .int .i64 h9, .int .i64 l0] (.slice so m sc) (refineL Z k0 m h9 l0) zb zc Z)) (fun _ kv _ => k1 + 1 - (intOf kv).toNat)
        case atStart => exact ⟨0, _, _, Nat.zero_le _, rfl, rfl, HF5⟩
        case round =>
          clear HF5
          obtain ⟨m, so, sc, hm, rfl, rfl, hF⟩ := hrel
          obtain ⟨d0, d1, d2, d3, d4⟩ := scanCells (unhide hF).sc
          by_cases hlt : m < k1 + 1 - k0
          · obtain ⟨kk, HKK⟩ : ∃ kk, Hid (k0 + m = kk) := ⟨_, rfl⟩
            have hkk : kk ≤ k1 := by have := unhide HKK; omega
            have hd : decide ((kk : Int) ≤ (k1 : Int)) = true := decide_eq_true (by omega)
            have i0 : (0 : Int) ≤ (kk : Int) := by omega
            have i1 : (kk : Int) < 64 := by omega
            rw [unhide HKK]
            have zc1 := (unhide hF).at (unhide HZL) kk (by omega)
            have hlev := unhide HLZ kk (by omega)
            obtain ⟨A, HA⟩ : ∃ A, Hid (refineL Z k0 m h9 l0 = A) := ⟨_, rfl⟩
            obtain ⟨R, HRR⟩ : ∃ R, Hid (refineL Z k0 (m + 1) h9 l0 = R) := ⟨_, rfl⟩
            have HAL : Hid (A.length = m) := by unfold Hid; rw [← unhide HA]; simp [refineL]
            have HRL : Hid (R.length = m + 1) := by unfold Hid; rw [← unhide HRR]; simp [refineL]
            have HNX : Hid (A ++ [bitI (Z.getD kk 0) h9 l0] = R) := by
              unfold Hid
              rw [← unhide HA, ← unhide HRR, ← unhide HKK]
              unfold refineL
              rw [List.range_succ, List.map_append]
              rfl
            generalize Z.getD kk 0 = zv at zc1 hlev HNX
            have hl13 : l0 ≤ 13 := by omega
            have hh14 : h9 ≤ 14 := by have := unhide HH9; omega
            have HABS := hide (fun W => specAbs zv (by omega) W)
            have HCUT := hide (fun W => specCut zv h9 (by omega) (by omega) W)
            have HAI : Hid (absI zv = (zv.natAbs : Int)) := by unfold Hid absI; split <;> omega
            have hna : zv.natAbs ≤ 32767 := by omega
            obtain ⟨na, HNA⟩ : ∃ na, Hid (zv.natAbs = na) := ⟨_, rfl⟩
            rw [unhide HNA] at HABS HAI hna
            have hand := and1_shr13 na l0 hna
            obtain ⟨bt, HBT⟩ : ∃ bt, Hid (na / 2 ^ l0 % 2 = bt) := ⟨_, rfl⟩
            rw [unhide HBT] at hand
            have hbt : bt ≤ 1 := by rw [← unhide HBT]; omega
            have HBI : Hid (bitI zv h9 l0 = if zv < 0 ∧ cutI zv h9 = 0 then -(bt : Int) else bt) := by
              have e : absI zv / 2 ^ l0 % 2 = (bt : Int) := by
                rw [unhide HAI, ← unhide HBT]
                simp
              unfold Hid bitI
              rw [e]
            have hq : 0 ≤ (na : Int) / 2 ^ l0 ∧ (na : Int) / 2 ^ l0 ≤ (na : Int) := ⟨Int.ediv_nonneg (by omega) (Int.le_of_lt (pow2_pos l0)), Int.ediv_le_self _ (by omega)⟩
            have eq1 := i64_in ((na : Int) / 2 ^ l0) (by omega)
            have eq2 := i64_in (bt : Int) (by omega)
            have eq3 := i64_in (-(bt : Int)) (by omega)
            have q1 : ¬ ((l0 : Int) < 0) := by omega
            have q2 : (l0 : Int).toNat = l0 := rfl
            rw [unhide HA] at hF
            have hsz := (unhide hF).size
            clear HA HAI HNA HBT hq
            go_wp2
            refine wp_region_noPanic ?_
            have HFD := hide ((unhide hF).new (grown_drew (World.grownBy.refl wr none)))
            refine wp_region_tail (fun W => W.cell? ⟨zb, kk, none⟩ = some (.int .i64 zv) ∧ W.cell? ⟨w.heap.size, 4, none⟩ = some (.int .i64 l0)) [true, true, true, true, false, true, true, false, false, false] (by kernel_rfl) (fun _ _ _ _ _ h => h) rfl (by kernel_rfl) ⟨zc1, d4⟩ ?_
            iterate 4
              refine heldF_take (v := ?_) (Or.inl ⟨by rfl, ?_⟩) ?_
              rotate_left 1
              · intro w' hSw
                try dsimp only at hSw
                obtain ⟨y1, y2⟩ := hSw
                go_simp
                try with_reducible rfl
              simp only [Act.put, List.setIfInBounds_toArray, List.set_cons_zero, List.set_cons_succ]
            refine heldF_skip ?_
            iterate 2
              refine heldF_take (v := ?_) (Or.inl ⟨by rfl, ?_⟩) ?_
              rotate_left 1
              · intro w' hSw
                try dsimp only at hSw
                obtain ⟨y1, y2⟩ := hSw
                go_simp
                try with_reducible rfl
              simp only [Act.put, List.setIfInBounds_toArray, List.set_cons_zero, List.set_cons_succ]
            refine heldF_skip (heldF_skip (heldF_skip (heldF_nil ?_)))
            iterate 4 refine tailF_skip ?_
            refine tailF_step (fun K hK => ?_)
            go_simp
            refine (unhide HABS _).mono ?_
            rintro e w3 ⟨rfl, rfl⟩
            refine hK.out _ _ ⟨zc1, d4⟩ ?_
            clear hK K
            iterate 2 refine tailF_skip ?_
            iterate 3
              refine tailF_step (fun K hK => ?_)
              go_simp
              refine hK.out _ _ ⟨zc1, d4⟩ ?_
              clear hK K
            refine tailF_nil (NoPanic.normal ?_)
            clear HABS hand eq1
            have HZV3 : wr.drew.cell? ⟨zb, kk, none⟩ = some (.int .i64 zv) := zc1
            generalize wr.drew = w3 at *
            have zc3 : w3.cell? ⟨zb, kk, none⟩ = some (.int .i64 zv) := HZV3
            obtain ⟨x0, x1, x2, x3, x4⟩ := scanCells (unhide HFD).sc
            clear zc1 d0 d1 d2 d3 d4 hF
            by_cases hneg : zv < 0
            · have hd2 : decide (zv < 0) = true := decide_eq_true hneg
              obtain ⟨cv, HCV⟩ : ∃ cv, Hid (cutI zv h9 = cv) := ⟨_, rfl⟩
              rw [unhide HCV] at HCUT HBI
              obtain ⟨bv, HBV⟩ : ∃ bv, Hid (bitI zv h9 l0 = bv) := ⟨_, rfl⟩
              rw [unhide HBV] at HBI HNX
              go_wp2
              refine wp_region_noPanic ?_
              have HFE := hide ((unhide HFD).new (grown_drew (World.grownBy.refl w3 none)))
              refine wp_region_tail (fun W => W.cell? ⟨zb, kk, none⟩ = some (.int .i64 zv) ∧ W.cell? ⟨w.heap.size, 3, none⟩ = some (.int .i64 h9)) [true, true, true, true, true, true, true, true, true, true, true, true, false, false, false] (by kernel_rfl) (fun _ _ _ _ _ h => h) rfl (by kernel_rfl) ⟨zc3, x3⟩ ?_
              iterate 12
                refine heldF_take (v := ?_) (Or.inl ⟨by rfl, ?_⟩) ?_
                rotate_left 1
                · intro w' hSw
                  try dsimp only at hSw
                  obtain ⟨y1, y2⟩ := hSw
                  go_simp
                  try with_reducible rfl
                simp only [Act.put, List.setIfInBounds_toArray, List.set_cons_zero, List.set_cons_succ]
              refine heldF_skip (heldF_skip (heldF_skip (heldF_nil ?_)))
              iterate 12 refine tailF_skip ?_
              refine tailF_step (fun K hK => ?_)
              go_simp
              refine (unhide HCUT _).mono ?_
              rintro e w4 ⟨rfl, rfl⟩
              refine hK.out _ _ ⟨zc3, x3⟩ ?_
              clear hK K
              by_cases hc0 : cv = 0
              · have hce : (cv == 0) = true := by simp [hc0]
                have ebv : bv = -(bt : Int) := by have h := unhide HBI; rw [if_pos ⟨hneg, hc0⟩] at h; exact h
                iterate 2
                  refine tailF_step (fun K hK => ?_)
                  go_simp
                  refine hK.out _ _ ⟨zc3, x3⟩ ?_
                  clear hK K
                refine tailF_nil (NoPanic.normal ?_)
                rw [ebv] at HNX
                generalize w3.drew = w4 at *
                clear hc0 hce ebv HBI HBV HCV HCUT
                clear x0 x1 x2 x3 x4 zc3 HZV3 HFD
                have hsz4 := (unhide HFE).size
                go_wp2_with (at_builtin; refine append_intS rfl _ _ rfl (w.heap.size + 1) (.slice so m sc) A rfl (unhide HFE).own (-(bt : Int)) rfl (by rw [unhide HAL]; omega) hsz4 R (unhide HNX) ?_)
                intro v7 w7 o7 g7 hat7
                have HF7 := hide ((unhide HFE).more o7 g7 hat7)
                rw [unhide HRL] at o7
                obtain ⟨so7, sc7, rfl⟩ := own_form o7
                rw [← unhide HRR] at HF7
                clear o7 g7 hat7 HFE HNX HAL HRL HRR
                go_wp2
                go_roundw
                case rel => exact ⟨m + 1, so7, sc7, by omega, by rw [show k0 + (m + 1) = kk + 1 by have := unhide HKK; omega]; go_num, rfl, HF7⟩
                case measure => have := unhide HKK; simp [intOf]; omega
              · have hce : (cv == 0) = false := by simp [hc0]
                have ebv : bv = (bt : Int) := by have h := unhide HBI; rw [if_neg (fun h => hc0 h.2)] at h; exact h
                iterate 2
                  refine tailF_step (fun K hK => ?_)
                  go_simp
                  refine hK.out _ _ ⟨zc3, x3⟩ ?_
                  clear hK K
                refine tailF_nil (NoPanic.normal ?_)
                rw [ebv] at HNX
                generalize w3.drew = w4 at *
                clear hc0 hce ebv HBI HBV HCV HCUT
                clear x0 x1 x2 x3 x4 zc3 HZV3 HFD
                have hsz4 := (unhide HFE).size
                go_wp2_with (at_builtin; refine append_intS rfl _ _ rfl (w.heap.size + 1) (.slice so m sc) A rfl (unhide HFE).own ((bt : Int)) rfl (by rw [unhide HAL]; omega) hsz4 R (unhide HNX) ?_)
                intro v7 w7 o7 g7 hat7
                have HF7 := hide ((unhide HFE).more o7 g7 hat7)
                rw [unhide HRL] at o7
                obtain ⟨so7, sc7, rfl⟩ := own_form o7
                rw [← unhide HRR] at HF7
                clear o7 g7 hat7 HFE HNX HAL HRL HRR
                go_wp2
                go_roundw
                case rel => exact ⟨m + 1, so7, sc7, by omega, by rw [show k0 + (m + 1) = kk + 1 by have := unhide HKK; omega]; go_num, rfl, HF7⟩
                case measure => have := unhide HKK; simp [intOf]; omega
            · have hd2 : decide (zv < 0) = false := decide_eq_false hneg
              have ebv : bitI zv h9 l0 = (bt : Int) := by have h := unhide HBI; rw [if_neg (fun h => hneg h.1)] at h; exact h
              rw [ebv] at HNX
              clear ebv HBI HCUT
              go_wp2
              go_quiet (fail)
              have HFE := hide ((unhide HFD).new (grown_drewN (World.grownBy.refl w3 none) nq))
              generalize w3.drewN nq = w4 at *
              clear x0 x1 x2 x3 x4 zc3 HZV3 HFD
              have hsz4 := (unhide HFE).size
              go_wp2_with (at_builtin; refine append_intS rfl _ _ rfl (w.heap.size + 1) (.slice so m sc) A rfl (unhide HFE).own ((bt : Int)) rfl (by rw [unhide HAL]; omega) hsz4 R (unhide HNX) ?_)
              intro v7 w7 o7 g7 hat7
              have HF7 := hide ((unhide HFE).more o7 g7 hat7)
              rw [unhide HRL] at o7
              obtain ⟨so7, sc7, rfl⟩ := own_form o7
              rw [← unhide HRR] at HF7
              clear o7 g7 hat7 HFE HNX HAL HRL HRR
              go_wp2
              go_roundw
              case rel => exact ⟨m + 1, so7, sc7, by omega, by rw [show k0 + (m + 1) = kk + 1 by have := unhide HKK; omega]; go_num, rfl, HF7⟩
              case measure => have := unhide HKK; simp [intOf]; omega
          · obtain rfl : m = k1 + 1 - k0 := by omega
            have hd : decide (((k0 + (k1 + 1 - k0) : Nat) : Int) ≤ (k1 : Int)) = false := decide_eq_false (by omega)
            rw [unhide HP2] at hF
            have hLl : L.length = k1 + 1 - k0 := by rw [← unhide HP2]; simp [refineL]
            have HRES : Hid (∃ so' sc', Ending.returned (.slice so (k1 + 1 - k0) sc) = .returned (.slice so' L.length sc') ∧ wr.ownsRow w.heap.size 3 1 (.slice so' L.length sc') L.length (L.map (Value.int .i64)) ∧ w.grownBy wr none) := by
              refine ⟨so, sc, by rw [hLl], ?_, (unhide hF).grown⟩
              have h := (unhide hF).own
              rw [← hLl] at h
              exact own_base h (by omega)
            clear hLl hF
            go_wp2
            go_ret
            exact unhide HRES

end Go.Proofs.Ytfgglainjaplgaa

namespace Go.Proofs.Ytfgglainjaplgaa
open Go.RowKit

set_option maxRecDepth 20000 in
set_option maxHeartbeats 6400000 in
theorem lawRefineOf (HI : Hid ImplRefine) (ao : Option Addr) (n cap : Nat) (zs : List Int) (v : Value) (a : Scn) (w : World) (hr : Rd .i64 w ao n zs) (hmn : n ≤ maxLen) (hx : RdScZ w (scV v a) a) :
    Calls Try.prog 6 #[.slice ao n cap, scV v a] w fun e w' => e = .returned (.bool true) ∧ Below w.heap.size w w' := by
  obtain ⟨cs, fr, to, hi, lo⟩ := a
  obtain ⟨xo, m, xc, rfl, hx0, hmx⟩ := scan_form hx
  have HX := hide hx0
  have HR := hide hr
  unfold scV
  dsimp only
  obtain ⟨r, HSZ⟩ : ∃ r : Int, Hid ((if m ≤ 1048576 then (1048576 : Int) - m else -1) = r) := ⟨_, rfl⟩
  have HS1 := hide (fun W (h : w.grownBy W none) => szScan1 xo m xc cs fr to hi lo W (hx0.grown h) hmx r HSZ)
  unfold maxLen at *
  clear hr hx hx0
  have I0 := hide (In1s.start w #[.slice xo m xc, .int .i64 fr, .int .i64 to, .int .i64 hi, .int .i64 lo])
  have Z0 := hide (unhide I0).size
  have c0 := scanCells (unhide I0).sb
  by_cases hbig : n ≤ 1048576
  · have hdec : decide ((1048576 : Int) < (n : Int)) = false := by simp; omega
    have hn : n ≤ 4194304 := by omega
    by_cases hm : m ≤ 1048576
    · have hr1 : decide (r < 0) = false := decide_eq_false (by have := unhide HSZ; rw [if_pos hm] at this; omega)
      have hm4 : m ≤ 4194304 := by omega
      obtain ⟨L, HL⟩ : ∃ L, Hid (refineG zs ⟨cs, fr, to, hi, lo⟩ = L) := ⟨_, rfl⟩
      have hL64 : L.length ≤ 64 := by rw [← unhide HL]; exact refine_few _ _
      have hL : L.length ≤ 4194304 := by omega
      have hneg : decide (1 + (n : Int) + (m : Int) < 0) = false := decide_eq_false (by omega)
      have hneg2 : decide (1 + (L.length : Int) < 0) = false := decide_eq_false (by omega)
      go_enter Try.func6, Try.ntmps6
      go_wp2_with fail
      generalize (w.alloc (.cells #[.slice xo m xc, .int .i64 fr, .int .i64 to, .int .i64 hi, .int .i64 lo] 45)) = wx at *
      refine (unhide HS1 wx (unhide I0).grown).mono ?_
      rintro e w1 ⟨rfl, g1⟩
      clear c0
      have Z1 := hide g1.size
      have I1 := hide ((unhide I0).new g1)
      clear I0 g1
      clear HS1
      go_wp2
      refine wp_region_noPanic ?_
      have gd := grown_drew (World.grownBy.refl w1 none)
      have Z2 := hide gd.size
      have I2 := hide ((unhide I1).new gd)
      clear I1 gd
      refine wp_region_tailL 20 (fun W => In1s w W #[.slice xo m xc, .int .i64 fr, .int .i64 to, .int .i64 hi, .int .i64 lo]) [true, false, true, false, false, false] (by kernel_rfl) (fun _ _ _ _ _ h => h) rfl (by decide) (by kernel_rfl) (unhide I2) ?_
      generalize w1.drew = w2 at *
      refine heldF_take (v := ?_) (Or.inl ⟨by rfl, ?_⟩) ?_
      rotate_left 1
      · intro w' hSw
        try dsimp only at hSw
        go_simp
        try with_reducible rfl
      simp only [Act.put, List.setIfInBounds_toArray, List.set_cons_zero, List.set_cons_succ]
      refine heldF_skip ?_
      refine heldF_take (v := ?_) (Or.inl ⟨by rfl, ?_⟩) ?_
      rotate_left 1
      · intro w' hSw
        try dsimp only at hSw
        have s1 := scanCells hSw.sb
        go_simp
        try with_reducible rfl
      simp only [Act.put, List.setIfInBounds_toArray, List.set_cons_zero, List.set_cons_succ]
      refine heldF_skip ?_
      refine heldF_skip ?_
      refine heldF_skip ?_
      refine heldF_nil ?_
      refine tailL_skip ?_
      refine tailL_step (fun K hK => ?_)
      go_simp
      refine (toIntS ao n cap zs w2 ((unhide HR).grown (unhide I2).grown) hn).mono ?_
      rintro e w3 ⟨rfl, o3, g3⟩
      have B3 : Hid (∀ k, Value.ownBlock _ = some k → w2.heap.size ≤ k ∧ k < w3.heap.size) := hide (fun k hk => o3.lt k hk)
      have Aa_03 := hide o3
      clear o3
      have Z3 := hide g3.size
      have I3 := hide ((unhide I2).new g3)
      clear I2 g3
      go_simp
      refine hK.out _ _ (.inr (unhide I3)) ?_
      clear hK K
      refine tailL_skip ?_
      refine tailL_step (fun K hK => ?_)
      go_simp
      refine (toScan1 xo m xc cs fr to hi lo w3 ((unhide HX).grown (unhide I3).grown) hm).mono ?_
      rintro e w4 ⟨vo4, vc4, rfl, o4, b4, g4⟩
      have B4 : Hid (∀ k, Value.ownBlock _ = some k → w3.heap.size ≤ k ∧ k < w4.heap.size) := hide (fun k hk => b4 k hk)
      have Ab_04 := hide o4
      clear o4
      clear b4
      have Z4 := hide g4.size
      have I4 := hide ((unhide I3).new g4)
      have Aa_4 := hide (own_grown (unhide Aa_03) g4)
      clear I3 g4 Aa_03
      go_simp
      refine hK.out _ _ (.inr (unhide I4)) ?_
      clear hK K
      refine tailL_step (fun K hK => ?_)
      go_simp
      have HC := specRefineOf _ n n zs w4 (own_rd (unhide Aa_4)) vo4 m vc4 ⟨cs, fr, to, hi, lo⟩ L HL
      dsimp only at HC
      refine HC.mono ?_
      rintro e w5 ⟨so5, sc5, rfl, o5, g5⟩
      clear HC
      have B5 : Hid (∀ k, Value.ownBlock _ = some k → w4.heap.size ≤ k ∧ k < w5.heap.size) := hide (fun k hk => o5.lt k hk)
      have W_05 := hide o5
      clear o5
      clear Aa_4
      clear Ab_04
      have Z5 := hide g5.size
      have I5 := hide ((unhide I4).new g5)
      clear I4 g5
      go_simp
      refine hK.out _ _ (.inr (unhide I5)) ?_
      clear hK K
      refine tailL_step (fun K hK => ?_)
      go_simp
      go_simp
      refine hK.out _ _ (.inl rfl) ?_
      clear hK K
      refine tailL_nil (NoPanic.normal ?_)
      go_wp2_with fail
      refine (toIntS ao n cap zs w5 ((unhide HR).grown (unhide I5).grown) hn).mono ?_
      rintro e w6 ⟨rfl, o6, g6⟩
      have B6 : Hid (∀ k, Value.ownBlock _ = some k → w5.heap.size ≤ k ∧ k < w6.heap.size) := hide (fun k hk => o6.lt k hk)
      have Xa_06 := hide o6
      clear o6
      have Z6 := hide g6.size
      have I6 := hide ((unhide I5).new g6)
      have W_6 := hide (own_grown (unhide W_05) g6)
      clear I5 g6 W_05
      have c0 := scanCells (unhide I6).sb
      go_wp2_with fail
      refine (toScan1 xo m xc cs fr to hi lo w6 ((unhide HX).grown (unhide I6).grown) hm).mono ?_
      rintro e w7 ⟨vo7, vc7, rfl, o7, b7, g7⟩
      have B7 : Hid (∀ k, Value.ownBlock _ = some k → w6.heap.size ≤ k ∧ k < w7.heap.size) := hide (fun k hk => b7 k hk)
      have Xb_07 := hide o7
      clear o7
      clear b7
      have Z7 := hide g7.size
      have I7 := hide ((unhide I6).new g7)
      have W_7 := hide (own_grown (unhide W_6) g7)
      have Xa_7 := hide (own_grown (unhide Xa_06) g7)
      clear I6 g7 W_6 Xa_06
      clear c0
      have gb := World.grownBy_alloc w7 (.cells #[.slice vo7 m vc7, .int .i64 fr, .int .i64 to, .int .i64 hi, .int .i64 lo] 26) none
      have hxb := heap_alloc_new w7 (.cells #[.slice vo7 m vc7, .int .i64 fr, .int .i64 to, .int .i64 hi, .int .i64 lo] 26)
      have ZB := hide (show w7.heap.size < (w7.alloc (.cells #[.slice vo7 m vc7, .int .i64 fr, .int .i64 to, .int .i64 hi, .int .i64 lo] 26)).heap.size by simp)
      have Z8 := hide gb.size
      have I8 := hide ((unhide I7).new gb)
      have W_8 := hide (own_grown (unhide W_7) gb)
      have Xa_8 := hide (own_grown (unhide Xa_7) gb)
      have Xb_8 := hide (own_grown (unhide Xb_07) gb)
      clear I7 gb W_7 Xa_7 Xb_07
      have XB_n := hide hxb
      clear hxb
      have c0 := scanCells (unhide XB_n)
      go_wp2_with fail
      generalize (w7.alloc (.cells #[.slice vo7 m vc7, .int .i64 fr, .int .i64 to, .int .i64 hi, .int .i64 lo] 26)) = w8 at *
      clear c0
      have HC := unhide HI _ n n zs w8 (own_rd (unhide Xa_8)) hbig vo7 m vc7 ⟨cs, fr, to, hi, lo⟩ (own_rd (unhide Xb_8)) hm L HL
      dsimp only at HC
      refine HC.mono ?_
      rintro e w9 ⟨so9, sc9, rfl, o9, g9⟩
      clear HC
      have B9 : Hid (∀ k, Value.ownBlock _ = some k → w8.heap.size ≤ k ∧ k < w9.heap.size) := hide (fun k hk => o9.lt k hk)
      have Y_09 := hide o9
      clear o9
      have Z9 := hide g9.size
      have I9 := hide ((unhide I8).new g9)
      have W_9 := hide (own_grown (unhide W_8) g9)
      have Xa_9 := hide (own_grown (unhide Xa_8) g9)
      have Xb_9 := hide (own_grown (unhide Xb_8) g9)
      have XB_9 := hide (grown_atT g9 (unhide XB_n) (by simp))
      clear I8 g9 W_8 Xa_8 Xb_8 XB_n
      go_wp2_with fail
      refine (eqIntS _ _ L.length _ _ L w9 (own_rd (unhide Y_09)) (own_rd (unhide W_9)) hL).mono ?_
      rintro e w10 ⟨rfl, g10⟩
      have Z10 := hide g10.size
      have I10 := hide ((unhide I9).new g10)
      have W_10 := hide (own_grown (unhide W_9) g10)
      have Xa_10 := hide (own_grown (unhide Xa_9) g10)
      have Xb_10 := hide (own_grown (unhide Xb_9) g10)
      have Y_10 := hide (own_grown (unhide Y_09) g10)
      have XB_10 := hide (grown_atT g10 (unhide XB_9) (by simp))
      clear I9 g10 W_9 Xa_9 Xb_9 Y_09 XB_9
      go_wp2_with fail
      refine (toIntS ao n cap zs w10 ((unhide HR).grown (unhide I10).grown) hn).mono ?_
      rintro e w11 ⟨rfl, o11, g11⟩
      have B11 : Hid (∀ k, Value.ownBlock _ = some k → w10.heap.size ≤ k ∧ k < w11.heap.size) := hide (fun k hk => o11.lt k hk)
      have T_011 := hide o11
      clear o11
      have Z11 := hide g11.size
      have I11 := hide ((unhide I10).new g11)
      have W_11 := hide (own_grown (unhide W_10) g11)
      have Xa_11 := hide (own_grown (unhide Xa_10) g11)
      have Xb_11 := hide (own_grown (unhide Xb_10) g11)
      have Y_11 := hide (own_grown (unhide Y_10) g11)
      have XB_11 := hide (grown_atT g11 (unhide XB_10) (by simp))
      clear I10 g11 W_10 Xa_10 Xb_10 Y_10 XB_10
      go_wp2_with fail
      refine (eqIntS _ _ n _ _ zs w11 (own_rd (unhide Xa_11)) (own_rd (unhide T_011)) hn).mono ?_
      rintro e w12 ⟨rfl, g12⟩
      have Z12 := hide g12.size
      have I12 := hide ((unhide I11).new g12)
      have W_12 := hide (own_grown (unhide W_11) g12)
      have Xa_12 := hide (own_grown (unhide Xa_11) g12)
      have Xb_12 := hide (own_grown (unhide Xb_11) g12)
      have Y_12 := hide (own_grown (unhide Y_11) g12)
      have T_12 := hide (own_grown (unhide T_011) g12)
      have XB_12 := hide (grown_atT g12 (unhide XB_11) (by simp))
      clear I11 g12 W_11 Xa_11 Xb_11 Y_11 T_011 XB_11
      clear T_12
      go_wp2
      refine wp_region_noPanic ?_
      have gd := grown_drew (World.grownBy.refl w12 none)
      have Z13 := hide gd.size
      have I13 := hide ((unhide I12).new gd)
      have W_13 := hide (own_grown (unhide W_12) gd)
      have Xa_13 := hide (own_grown (unhide Xa_12) gd)
      have Xb_13 := hide (own_grown (unhide Xb_12) gd)
      have Y_13 := hide (own_grown (unhide Y_12) gd)
      have XB_13 := hide (grown_atT gd (unhide XB_12) (by simp))
      clear I12 gd W_12 Xa_12 Xb_12 Y_12 XB_12
      refine wp_region_tailL 20 (fun W => In1s w W #[.slice xo m xc, .int .i64 fr, .int .i64 to, .int .i64 hi, .int .i64 lo] ∧ W.heap[w7.heap.size]? = some (.cells #[.slice vo7 m vc7, .int .i64 fr, .int .i64 to, .int .i64 hi, .int .i64 lo] 26 (0, 0))) [true, true, false, false, false] (by kernel_rfl) (fun _ _ _ _ _ h => h) rfl (by decide) (by kernel_rfl) ⟨(unhide I13), unhide XB_13⟩ ?_
      generalize w12.drew = w13 at *
      refine heldF_take (v := ?_) (Or.inl ⟨by rfl, ?_⟩) ?_
      rotate_left 1
      · intro w' hSw
        try dsimp only at hSw
        have s1 := scanCells hSw.2
        go_simp
        try with_reducible rfl
      simp only [Act.put, List.setIfInBounds_toArray, List.set_cons_zero, List.set_cons_succ]
      refine heldF_take (v := ?_) (Or.inl ⟨by rfl, ?_⟩) ?_
      rotate_left 1
      · intro w' hSw
        try dsimp only at hSw
        have s1 := scanCells hSw.1.sb
        go_simp
        try with_reducible rfl
      simp only [Act.put, List.setIfInBounds_toArray, List.set_cons_zero, List.set_cons_succ]
      refine heldF_skip ?_
      refine heldF_skip ?_
      refine heldF_skip ?_
      refine heldF_nil ?_
      refine tailL_skip ?_
      refine tailL_skip ?_
      refine tailL_step (fun K hK => ?_)
      go_simp
      refine (toScan1 xo m xc cs fr to hi lo w13 ((unhide HX).grown (unhide I13).grown) hm).mono ?_
      rintro e w14 ⟨vo14, vc14, rfl, o14, b14, g14⟩
      have B14 : Hid (∀ k, Value.ownBlock _ = some k → w13.heap.size ≤ k ∧ k < w14.heap.size) := hide (fun k hk => b14 k hk)
      have T_014 := hide o14
      clear o14
      clear b14
      have Z14 := hide g14.size
      have I14 := hide ((unhide I13).new g14)
      have W_14 := hide (own_grown (unhide W_13) g14)
      have Xa_14 := hide (own_grown (unhide Xa_13) g14)
      have Xb_14 := hide (own_grown (unhide Xb_13) g14)
      have Y_14 := hide (own_grown (unhide Y_13) g14)
      have XB_14 := hide (grown_atT g14 (unhide XB_13) (by simp))
      clear I13 g14 W_13 Xa_13 Xb_13 Y_13 XB_13
      go_simp
      refine hK.out _ _ (.inr ⟨(unhide I14), unhide XB_14⟩) ?_
      clear hK K
      refine tailL_step (fun K hK => ?_)
      go_simp
      refine (eqScan1 vo7 vo14 m vc7 vc14 cs fr to hi lo w14 (own_rd (unhide Xb_14)) (own_rd (unhide T_014)) hm).mono ?_
      rintro e w15 ⟨rfl, g15⟩
      have Z15 := hide g15.size
      have I15 := hide ((unhide I14).new g15)
      have W_15 := hide (own_grown (unhide W_14) g15)
      have Xa_15 := hide (own_grown (unhide Xa_14) g15)
      have Xb_15 := hide (own_grown (unhide Xb_14) g15)
      have Y_15 := hide (own_grown (unhide Y_14) g15)
      have T_15 := hide (own_grown (unhide T_014) g15)
      have XB_15 := hide (grown_atT g15 (unhide XB_14) (by simp))
      clear I14 g15 W_14 Xa_14 Xb_14 Y_14 T_014 XB_14
      clear T_15
      go_simp
      refine hK.out _ _ (.inr ⟨(unhide I15), unhide XB_15⟩) ?_
      clear hK K
      refine tailL_step (fun K hK => ?_)
      go_simp
      go_simp
      refine hK.out _ _ (.inl rfl) ?_
      clear hK K
      refine tailL_nil (NoPanic.normal ?_)
      go_wp2_with fail
      refine (markIntS _ _ _ _ _ 1 w15 (unhide Xa_15) hn (by omega) (by omega)).mono ?_
      rintro e w16 ⟨rfl, _, g16⟩
      have Z16 := hide g16.size
      have I16 := hide ((unhide I15).wrR g16 (fun g e => by have := unhide B6 g e; have := unhide Z0; have := unhide Z1; have := unhide Z2; have := unhide Z3; have := unhide Z4; have := unhide Z5; have := unhide Z6; have := unhide Z7; have := unhide ZB; have := unhide Z8; have := unhide Z9; have := unhide Z10; have := unhide Z11; have := unhide Z12; have := unhide Z13; have := unhide Z14; have := unhide Z15; have := unhide Z16; omega))
      have W_16 := hide (own_beneath (unhide W_15) g16 (fun g g' h h' => by have := unhide B5 g h; have := unhide B6 g' h'; have := unhide Z0; have := unhide Z1; have := unhide Z2; have := unhide Z3; have := unhide Z4; have := unhide Z5; have := unhide Z6; have := unhide Z7; have := unhide ZB; have := unhide Z8; have := unhide Z9; have := unhide Z10; have := unhide Z11; have := unhide Z12; have := unhide Z13; have := unhide Z14; have := unhide Z15; have := unhide Z16; omega))
      have Xb_16 := hide (own_beneath (unhide Xb_15) g16 (fun g g' h h' => by have := unhide B7 g h; have := unhide B6 g' h'; have := unhide Z0; have := unhide Z1; have := unhide Z2; have := unhide Z3; have := unhide Z4; have := unhide Z5; have := unhide Z6; have := unhide Z7; have := unhide ZB; have := unhide Z8; have := unhide Z9; have := unhide Z10; have := unhide Z11; have := unhide Z12; have := unhide Z13; have := unhide Z14; have := unhide Z15; have := unhide Z16; omega))
      have Y_16 := hide (own_beneath (unhide Y_15) g16 (fun g g' h h' => by have := unhide B9 g h; have := unhide B6 g' h'; have := unhide Z0; have := unhide Z1; have := unhide Z2; have := unhide Z3; have := unhide Z4; have := unhide Z5; have := unhide Z6; have := unhide Z7; have := unhide ZB; have := unhide Z8; have := unhide Z9; have := unhide Z10; have := unhide Z11; have := unhide Z12; have := unhide Z13; have := unhide Z14; have := unhide Z15; have := unhide Z16; omega))
      have XB_16 := hide (grown_atT g16 (unhide XB_15) (fun e => by have := unhide B6 _ e; have := unhide Z0; have := unhide Z1; have := unhide Z2; have := unhide Z3; have := unhide Z4; have := unhide Z5; have := unhide Z6; have := unhide Z7; have := unhide ZB; have := unhide Z8; have := unhide Z9; have := unhide Z10; have := unhide Z11; have := unhide Z12; have := unhide Z13; have := unhide Z14; have := unhide Z15; have := unhide Z16; omega))
      clear I15 g16 W_15 Xa_15 Xb_15 Y_15 XB_15
      have c0 := scanCells (unhide XB_16)
      go_wp2_with fail
      refine (markScan1 _ m _ _ _ fr to hi lo (1 + (n : Int)) w16 (unhide Xb_16) hm4 (by omega) (by omega)).mono ?_
      rintro e w17 ⟨rfl, g17⟩
      clear c0
      have Z17 := hide g17.size
      have I17 := hide ((unhide I16).wrR g17 (fun g e => by have := unhide B7 g e; have := unhide Z0; have := unhide Z1; have := unhide Z2; have := unhide Z3; have := unhide Z4; have := unhide Z5; have := unhide Z6; have := unhide Z7; have := unhide ZB; have := unhide Z8; have := unhide Z9; have := unhide Z10; have := unhide Z11; have := unhide Z12; have := unhide Z13; have := unhide Z14; have := unhide Z15; have := unhide Z16; have := unhide Z17; omega))
      have W_17 := hide (own_beneath (unhide W_16) g17 (fun g g' h h' => by have := unhide B5 g h; have := unhide B7 g' h'; have := unhide Z0; have := unhide Z1; have := unhide Z2; have := unhide Z3; have := unhide Z4; have := unhide Z5; have := unhide Z6; have := unhide Z7; have := unhide ZB; have := unhide Z8; have := unhide Z9; have := unhide Z10; have := unhide Z11; have := unhide Z12; have := unhide Z13; have := unhide Z14; have := unhide Z15; have := unhide Z16; have := unhide Z17; omega))
      have Y_17 := hide (own_beneath (unhide Y_16) g17 (fun g g' h h' => by have := unhide B9 g h; have := unhide B7 g' h'; have := unhide Z0; have := unhide Z1; have := unhide Z2; have := unhide Z3; have := unhide Z4; have := unhide Z5; have := unhide Z6; have := unhide Z7; have := unhide ZB; have := unhide Z8; have := unhide Z9; have := unhide Z10; have := unhide Z11; have := unhide Z12; have := unhide Z13; have := unhide Z14; have := unhide Z15; have := unhide Z16; have := unhide Z17; omega))
      have XB_17 := hide (grown_atT g17 (unhide XB_16) (fun e => by have := unhide B7 _ e; have := unhide Z0; have := unhide Z1; have := unhide Z2; have := unhide Z3; have := unhide Z4; have := unhide Z5; have := unhide Z6; have := unhide Z7; have := unhide ZB; have := unhide Z8; have := unhide Z9; have := unhide Z10; have := unhide Z11; have := unhide Z12; have := unhide Z13; have := unhide Z14; have := unhide Z15; have := unhide Z16; have := unhide Z17; omega))
      clear I16 g17 W_16 Xb_16 Y_16 XB_16
      go_wp2_with fail
      refine (eqIntS _ _ L.length _ _ L w17 (own_rd (unhide Y_17)) (own_rd (unhide W_17)) hL).mono ?_
      rintro e w18 ⟨rfl, g18⟩
      have Z18 := hide g18.size
      have I18 := hide ((unhide I17).new g18)
      have W_18 := hide (own_grown (unhide W_17) g18)
      have Y_18 := hide (own_grown (unhide Y_17) g18)
      have XB_18 := hide (grown_atT g18 (unhide XB_17) (by simp))
      clear I17 g18 W_17 Y_17 XB_17
      go_wp2_with fail
      refine (markIntS _ _ _ _ _ 1 w18 (unhide Y_18) hL (by omega) (by omega)).mono ?_
      rintro e w19 ⟨rfl, o19, g19⟩
      have Z19 := hide g19.size
      have I19 := hide ((unhide I18).wrR g19 (fun g e => by have := unhide B9 g e; have := unhide Z0; have := unhide Z1; have := unhide Z2; have := unhide Z3; have := unhide Z4; have := unhide Z5; have := unhide Z6; have := unhide Z7; have := unhide ZB; have := unhide Z8; have := unhide Z9; have := unhide Z10; have := unhide Z11; have := unhide Z12; have := unhide Z13; have := unhide Z14; have := unhide Z15; have := unhide Z16; have := unhide Z17; have := unhide Z18; have := unhide Z19; omega))
      have W_19 := hide (own_beneath (unhide W_18) g19 (fun g g' h h' => by have := unhide B5 g h; have := unhide B9 g' h'; have := unhide Z0; have := unhide Z1; have := unhide Z2; have := unhide Z3; have := unhide Z4; have := unhide Z5; have := unhide Z6; have := unhide Z7; have := unhide ZB; have := unhide Z8; have := unhide Z9; have := unhide Z10; have := unhide Z11; have := unhide Z12; have := unhide Z13; have := unhide Z14; have := unhide Z15; have := unhide Z16; have := unhide Z17; have := unhide Z18; have := unhide Z19; omega))
      have XB_19 := hide (grown_atT g19 (unhide XB_18) (fun e => by have := unhide B9 _ e; have := unhide Z0; have := unhide Z1; have := unhide Z2; have := unhide Z3; have := unhide Z4; have := unhide Z5; have := unhide Z6; have := unhide Z7; have := unhide ZB; have := unhide Z8; have := unhide Z9; have := unhide Z10; have := unhide Z11; have := unhide Z12; have := unhide Z13; have := unhide Z14; have := unhide Z15; have := unhide Z16; have := unhide Z17; have := unhide Z18; have := unhide Z19; omega))
      clear I18 g19 W_18 Y_18 XB_18
      have Y_m := hide o19
      clear o19
      go_wp2_with fail
      refine (heldIntS _ _ _ 1 w19 (own_rd (unhide Y_m)) hL (by omega) (by omega)).mono ?_
      rintro e w20 ⟨rfl, g20⟩
      have Z20 := hide g20.size
      have I20 := hide ((unhide I19).new g20)
      have W_20 := hide (own_grown (unhide W_19) g20)
      have Y_20 := hide (own_grown (unhide Y_m) g20)
      have XB_20 := hide (grown_atT g20 (unhide XB_19) (by simp))
      clear I19 g20 W_19 Y_m XB_19
      go_wp2
      refine wp_region_noPanic ?_
      have gd := grown_drew (World.grownBy.refl w20 none)
      have Z21 := hide gd.size
      have I21 := hide ((unhide I20).new gd)
      have W_21 := hide (own_grown (unhide W_20) gd)
      have Y_21 := hide (own_grown (unhide Y_20) gd)
      have XB_21 := hide (grown_atT gd (unhide XB_20) (by simp))
      clear I20 gd W_20 Y_20 XB_20
      refine wp_region_tailL 20 (fun W => In1s w W #[.slice xo m xc, .int .i64 fr, .int .i64 to, .int .i64 hi, .int .i64 lo]) [true, false, true, false, false, false] (by kernel_rfl) (fun _ _ _ _ _ h => h) rfl (by decide) (by kernel_rfl) (unhide I21) ?_
      generalize w20.drew = w21 at *
      refine heldF_take (v := ?_) (Or.inl ⟨by rfl, ?_⟩) ?_
      rotate_left 1
      · intro w' hSw
        try dsimp only at hSw
        go_simp
        try with_reducible rfl
      simp only [Act.put, List.setIfInBounds_toArray, List.set_cons_zero, List.set_cons_succ]
      refine heldF_skip ?_
      refine heldF_take (v := ?_) (Or.inl ⟨by rfl, ?_⟩) ?_
      rotate_left 1
      · intro w' hSw
        try dsimp only at hSw
        have s1 := scanCells hSw.sb
        go_simp
        try with_reducible rfl
      simp only [Act.put, List.setIfInBounds_toArray, List.set_cons_zero, List.set_cons_succ]
      refine heldF_skip ?_
      refine heldF_skip ?_
      refine heldF_skip ?_
      refine heldF_nil ?_
      refine tailL_skip ?_
      refine tailL_step (fun K hK => ?_)
      go_simp
      refine (toIntS ao n cap zs w21 ((unhide HR).grown (unhide I21).grown) hn).mono ?_
      rintro e w22 ⟨rfl, o22, g22⟩
      have B22 : Hid (∀ k, Value.ownBlock _ = some k → w21.heap.size ≤ k ∧ k < w22.heap.size) := hide (fun k hk => o22.lt k hk)
      have Aa_022 := hide o22
      clear o22
      have Z22 := hide g22.size
      have I22 := hide ((unhide I21).new g22)
      have W_22 := hide (own_grown (unhide W_21) g22)
      have Y_22 := hide (own_grown (unhide Y_21) g22)
      have XB_22 := hide (grown_atT g22 (unhide XB_21) (by simp))
      clear I21 g22 W_21 Y_21 XB_21
      go_simp
      refine hK.out _ _ (.inr (unhide I22)) ?_
      clear hK K
      refine tailL_skip ?_
      refine tailL_step (fun K hK => ?_)
      go_simp
      refine (toScan1 xo m xc cs fr to hi lo w22 ((unhide HX).grown (unhide I22).grown) hm).mono ?_
      rintro e w23 ⟨vo23, vc23, rfl, o23, b23, g23⟩
      have B23 : Hid (∀ k, Value.ownBlock _ = some k → w22.heap.size ≤ k ∧ k < w23.heap.size) := hide (fun k hk => b23 k hk)
      have Ab_023 := hide o23
      clear o23
      clear b23
      have Z23 := hide g23.size
      have I23 := hide ((unhide I22).new g23)
      have W_23 := hide (own_grown (unhide W_22) g23)
      have Y_23 := hide (own_grown (unhide Y_22) g23)
      have Aa_23 := hide (own_grown (unhide Aa_022) g23)
      have XB_23 := hide (grown_atT g23 (unhide XB_22) (by simp))
      clear I22 g23 W_22 Y_22 Aa_022 XB_22
      go_simp
      refine hK.out _ _ (.inr (unhide I23)) ?_
      clear hK K
      refine tailL_step (fun K hK => ?_)
      go_simp
      have HC := unhide HI _ n n zs w23 (own_rd (unhide Aa_23)) hbig vo23 m vc23 ⟨cs, fr, to, hi, lo⟩ (own_rd (unhide Ab_023)) hm L HL
      dsimp only at HC
      refine HC.mono ?_
      rintro e w24 ⟨so24, sc24, rfl, o24, g24⟩
      clear HC
      have B24 : Hid (∀ k, Value.ownBlock _ = some k → w23.heap.size ≤ k ∧ k < w24.heap.size) := hide (fun k hk => o24.lt k hk)
      have H_024 := hide o24
      clear o24
      clear Aa_23
      clear Ab_023
      have Z24 := hide g24.size
      have I24 := hide ((unhide I23).new g24)
      have W_24 := hide (own_grown (unhide W_23) g24)
      have Y_24 := hide (own_grown (unhide Y_23) g24)
      have XB_24 := hide (grown_atT g24 (unhide XB_23) (by simp))
      clear I23 g24 W_23 Y_23 XB_23
      go_simp
      refine hK.out _ _ (.inr (unhide I24)) ?_
      clear hK K
      refine tailL_step (fun K hK => ?_)
      go_simp
      go_simp
      refine hK.out _ _ (.inl rfl) ?_
      clear hK K
      refine tailL_nil (NoPanic.normal ?_)
      go_wp2_with fail
      refine (eqIntS _ _ L.length _ _ L w24 (own_rd (unhide H_024)) (own_rd (unhide W_24)) hL).mono ?_
      rintro e w25 ⟨rfl, g25⟩
      have Z25 := hide g25.size
      have I25 := hide ((unhide I24).new g25)
      have W_25 := hide (own_grown (unhide W_24) g25)
      have Y_25 := hide (own_grown (unhide Y_24) g25)
      have H_25 := hide (own_grown (unhide H_024) g25)
      have XB_25 := hide (grown_atT g25 (unhide XB_24) (by simp))
      clear I24 g25 W_24 Y_24 H_024 XB_24
      clear H_25
      clear W_25
      go_wp2_with fail
      refine (heldIntS _ _ _ 1 w25 (own_rd (unhide Y_25)) hL (by omega) (by omega)).mono ?_
      rintro e w26 ⟨rfl, g26⟩
      have Z26 := hide g26.size
      have I26 := hide ((unhide I25).new g26)
      have Y_26 := hide (own_grown (unhide Y_25) g26)
      have XB_26 := hide (grown_atT g26 (unhide XB_25) (by simp))
      clear I25 g26 Y_25 XB_25
      go_wp2
      go_ret
      exact ⟨rfl, grown_below (unhide I26).grown⟩
    · have hr1 : decide (r < 0) = true := decide_eq_true (by have := unhide HSZ; rw [if_neg hm] at this; omega)
      go_enter Try.func6, Try.ntmps6
      go_wp2_with fail
      generalize (w.alloc (.cells #[.slice xo m xc, .int .i64 fr, .int .i64 to, .int .i64 hi, .int .i64 lo] 45)) = wx at *
      refine (unhide HS1 wx (unhide I0).grown).mono ?_
      rintro e w1 ⟨rfl, g1⟩
      have I1 := hide ((unhide I0).new g1)
      clear c0 g1
      go_wp2
      go_ret
      exact ⟨rfl, grown_below (unhide I1).grown⟩
  · have hdec : decide ((1048576 : Int) < (n : Int)) = true := by simp; omega
    go_enter Try.func6, Try.ntmps6
    go_wp2
    go_ret
    exact ⟨rfl, grown_below (unhide I0).grown⟩

end Go.Proofs.Ytfgglainjaplgaa

namespace Go.Proofs.Ytfgglainjaplgaa
open Go.RowKit Go.Shelf

theorem nearestLevel (n : Int) (w : World) :
    Calls Try.prog 70 #[.int .i64 n] w fun e w' => e = .returned (.int .i64 (min (max n (-16383)) 16383)) ∧ w = w' := by
  go_enter Try.func70, Try.ntmps70
  go_wp2
  all_goals
    go_ret
    refine ⟨ret_int ?_, rfl⟩
    first | omega | (split at * <;> omega)

set_option maxRecDepth 20000 in
set_option maxHeartbeats 400000 in
theorem fixLevels (ao : Option Addr) (n cap : Nat) (zs : List Int) (w : World) (hr : Rd .i64 w ao n zs) (b : Bool) (hb : Hid (levB (-16383) 16383 zs = b)) :
    Calls Try.prog 60 #[.slice ao n cap] w fun e w' => (∃ ys, e = .returned (.tuple #[.agg (sq ys), .bool b]) ∧ ys.length = 64 ∧ (n = 64 → ys = zs)) ∧ w.grownBy w' none := by
  by_cases h : n = 64
  · subst h
    obtain ⟨bb, off, rfl, _⟩ := hr.2 0 (by omega)
    have e : (zs == made (fun k => min (max (zs.getD k 0) (-16383)) 16383)) = b := by rw [clip_same (by omega) zs hr.1]; exact unhide hb
    have HZ := hide hr.1
    have HR := hide (hr.grown (World.grownBy_alloc w (.cells #[.int .i64 0, .int .i64 0, .int .i64 0, .int .i64 0, .int .i64 0, .int .i64 0, .int .i64 0, .int .i64 0, .int .i64 0, .int .i64 0, .int .i64 0, .int .i64 0, .int .i64 0, .int .i64 0, .int .i64 0, .int .i64 0, .int .i64 0, .int .i64 0, .int .i64 0, .int .i64 0, .int .i64 0, .int .i64 0, .int .i64 0, .int .i64 0, .int .i64 0, .int .i64 0, .int .i64 0, .int .i64 0, .int .i64 0, .int .i64 0, .int .i64 0, .int .i64 0, .int .i64 0, .int .i64 0, .int .i64 0, .int .i64 0, .int .i64 0, .int .i64 0, .int .i64 0, .int .i64 0, .int .i64 0, .int .i64 0, .int .i64 0, .int .i64 0, .int .i64 0, .int .i64 0, .int .i64 0, .int .i64 0, .int .i64 0, .int .i64 0, .int .i64 0, .int .i64 0, .int .i64 0, .int .i64 0, .int .i64 0, .int .i64 0, .int .i64 0, .int .i64 0, .int .i64 0, .int .i64 0, .int .i64 0, .int .i64 0, .int .i64 0, .int .i64 0] 73) none))
    clear hr
    go_enter Try.func60, Try.ntmps60
    go_wp2_with fail
    refine (fixSquare_yes bb off cap zs _ (unhide HR) (fun k => min (max (zs.getD k 0) (-16383)) 16383) 70 #[] (enters_of Try.func70 (by kernel_rfl) rfl) (fun k hk W hW => (nearestLevel (zs.getD k 0) W).mono ?_)).mono ?_
    · rintro e w' ⟨rfl, rfl⟩
      exact ⟨rfl, World.grownBy.refl _ _⟩
    · rintro e' w' ⟨rfl, g⟩
      rw [e]
      clear HR hb e
      have hB := (g.block w.heap.size (by simp) (by simp)).trans (heap_alloc_new w _)
      have HB := hide hB
      clear hB
      go_wp2_with (refine store_row rfl 73 _ _ rfl w.heap.size rfl (sq zs) rfl #[.int .i64 0, .int .i64 0, .int .i64 0, .int .i64 0, .int .i64 0, .int .i64 0, .int .i64 0, .int .i64 0, .int .i64 0, .int .i64 0, .int .i64 0, .int .i64 0, .int .i64 0, .int .i64 0, .int .i64 0, .int .i64 0, .int .i64 0, .int .i64 0, .int .i64 0, .int .i64 0, .int .i64 0, .int .i64 0, .int .i64 0, .int .i64 0, .int .i64 0, .int .i64 0, .int .i64 0, .int .i64 0, .int .i64 0, .int .i64 0, .int .i64 0, .int .i64 0, .int .i64 0, .int .i64 0, .int .i64 0, .int .i64 0, .int .i64 0, .int .i64 0, .int .i64 0, .int .i64 0, .int .i64 0, .int .i64 0, .int .i64 0, .int .i64 0, .int .i64 0, .int .i64 0, .int .i64 0, .int .i64 0, .int .i64 0, .int .i64 0, .int .i64 0, .int .i64 0, .int .i64 0, .int .i64 0, .int .i64 0, .int .i64 0, .int .i64 0, .int .i64 0, .int .i64 0, .int .i64 0, .int .i64 0, .int .i64 0, .int .i64 0, .int .i64 0] 73 (unhide HB) (by rw [sq_size, unhide HZ]; rfl) (by rw [sq_size, unhide HZ]; kernel_rfl) (sq_one _) ?_; intro w3 hB3 g3)
      refine bodyPost_ret (v := .tuple #[.agg (sq zs), .bool b]) ?_ rfl ⟨⟨_, rfl, (by first | exact unhide HZ | exact zs64_len), ?_⟩, ?_⟩
      · exact results_c2 (p := 2) (q := 3) (ty := 73) rfl _ _ _ w.heap.size rfl _ (run_loadVar_row w3 _ 73 73 _ (0, 0) _ hB3 Try.underlying73 rfl (by rw [sq_size, unhide HZ]; kernel_rfl))
      · intro hh; first | rfl | exact absurd hh h
      · exact grown_new (grown_new (World.grownBy_alloc _ _ _) g (fun g e => by simp at e)) g3 (fun g e => by simp at e; omega)
  · have hb' : b = false := by rw [← unhide hb]; simp [levB, hr.1, h]
    subst hb'
    clear hr hb
    go_enter Try.func60, Try.ntmps60
    go_wp2_with fail
    refine (fixSquare_no ao n cap _ _ h).mono ?_
    rintro e' w' ⟨rfl, g⟩
    have hB := (g.block w.heap.size (by simp) (by simp)).trans (heap_alloc_new w _)
    have HB := hide hB
    clear hB
    go_wp2_with (refine store_row rfl 73 _ _ rfl w.heap.size rfl (sq zs64) rfl #[.int .i64 0, .int .i64 0, .int .i64 0, .int .i64 0, .int .i64 0, .int .i64 0, .int .i64 0, .int .i64 0, .int .i64 0, .int .i64 0, .int .i64 0, .int .i64 0, .int .i64 0, .int .i64 0, .int .i64 0, .int .i64 0, .int .i64 0, .int .i64 0, .int .i64 0, .int .i64 0, .int .i64 0, .int .i64 0, .int .i64 0, .int .i64 0, .int .i64 0, .int .i64 0, .int .i64 0, .int .i64 0, .int .i64 0, .int .i64 0, .int .i64 0, .int .i64 0, .int .i64 0, .int .i64 0, .int .i64 0, .int .i64 0, .int .i64 0, .int .i64 0, .int .i64 0, .int .i64 0, .int .i64 0, .int .i64 0, .int .i64 0, .int .i64 0, .int .i64 0, .int .i64 0, .int .i64 0, .int .i64 0, .int .i64 0, .int .i64 0, .int .i64 0, .int .i64 0, .int .i64 0, .int .i64 0, .int .i64 0, .int .i64 0, .int .i64 0, .int .i64 0, .int .i64 0, .int .i64 0, .int .i64 0, .int .i64 0, .int .i64 0, .int .i64 0] 73 (unhide HB) (by rw [sq_size, zs64_len]; rfl) (by rw [sq_size, zs64_len]; kernel_rfl) (sq_one _) ?_; intro w3 hB3 g3)
    refine bodyPost_ret (v := .tuple #[.agg (sq zs64), .bool false]) ?_ rfl ⟨⟨_, rfl, (by first | exact unhide HZ | exact zs64_len), ?_⟩, ?_⟩
    · exact results_c2 (p := 2) (q := 3) (ty := 73) rfl _ _ _ w.heap.size rfl _ (run_loadVar_row w3 _ 73 73 _ (0, 0) _ hB3 Try.underlying73 rfl (by rw [sq_size, zs64_len]; kernel_rfl))
    · intro hh; first | rfl | exact absurd hh h
    · exact grown_new (grown_new (World.grownBy_alloc _ _ _) g (fun g e => by simp at e)) g3 (fun g e => by simp at e; omega)

end Go.Proofs.Ytfgglainjaplgaa
