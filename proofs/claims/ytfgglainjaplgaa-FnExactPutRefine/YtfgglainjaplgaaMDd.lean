/-
  TabZigSpec2, TreeGA, AppIntS, CutSpec, FirstSpec, PutFSpec, PutRSpec.
-/
import Derived.Test.YtfgglainjaplgaaRows
import Derived.Maps.AppendAt
import Derived.Deep.AppendLies
import Derived.Test.YtfgglainjaplgaaMDc

namespace Go.Proofs.Ytfgglainjaplgaa
open Go.RowKit

theorem unz_setL (zs : List Int) (k : Nat) (h : k < 64) : ((unzTo zs k).map (Value.int .i64)).set (zz k) (.int .i64 (zs.getD k 0)) = (unzTo zs (k + 1)).map (Value.int .i64) := by
  have e := congrArg Array.toList (unz_set zs k h)
  simpa [sq] using e

set_option maxRecDepth 20000 in
set_option maxHeartbeats 1600000 in
theorem specToZig (ao : Option Addr) (n cap : Nat) (zs : List Int) (w : World) (hr : Rd .i64 w ao n zs) (b : Bool) (hb : Hid (numsB (-32767) 32767 zs = b)) (L : List Int) (HL : Hid ((if b then zigged zs else []) = L)) :
    Calls Try.prog 20 #[.slice ao n cap] w fun e w' => ∃ so sc, e = .returned (.slice so L.length sc) ∧ w'.ownsRow w.heap.size 3 1 (.slice so L.length sc) L.length (L.map (Value.int .i64)) ∧ w.grownBy w' none := by
  have HO : Hid ((w.alloc (.cells #[] 3)).ownsRow w.heap.size 3 1 (.slice (some ⟨w.heap.size, 0, none⟩) 0 0) 0 []) := World.ownsRow_lit w #[] 0 (Nat.le_refl _) (by unfold maxLen; omega) rfl
  have HR := hide (hr.grown (World.grownBy_alloc w (.cells #[] 3) none))
  have HN := hide hr.1
  have HLW := hide hr.lt
  clear hr
  go_enter Try.func20, Try.ntmps20
  go_wp2_with fail
  refine (specBlockOk ao n cap zs _ (unhide HR) b hb).mono ?_
  rintro e w1 ⟨rfl, g1⟩
  have HG1 : Hid (w.grownBy w1 none) := grown_trans (World.grownBy_alloc _ _ _) g1
  have HO1 := hide (own_grown (unhide HO) g1)
  have HR1 := hide ((unhide HR).grown g1)
  clear g1 HO HR
  cases b with
  | false =>
    have e : L = [] := (unhide HL).symm
    subst e
    go_wp2
    go_ret
    exact ⟨_, _, rfl, unhide HO1, unhide HG1⟩
  | true =>
    have hz := (nums_at (unhide hb)).1
    have hn : n = 64 := by rw [← unhide HN]; exact hz
    subst hn
    have e : L = zigged zs := (unhide HL).symm
    subst e
    clear HL hb
    have HZ := hide hz
    clear hz
    go_wp2_with fail
    refine (specZigZag w1).mono ?_
    rintro e w2 ⟨zo, zc, rfl, oz, g2⟩
    have hs1 : w.heap.size < w1.heap.size := by have := (unhide HO1).lt w.heap.size rfl; omega
    have HZL : Hid (∀ b off, zo = some ⟨b, off, none⟩ → b ≠ w.heap.size) := by
      intro b off e
      subst e
      have h := (oz.lt b (by simp [Value.ownBlock])).1
      omega
    have HRL : Hid (∀ b off, ao = some ⟨b, off, none⟩ → b ≠ w.heap.size) := by
      intro b off e
      exact Nat.ne_of_lt (unhide HLW (by omega) b off e)
    have HZZ := hide (own_rd oz)
    have HO2 : Hid (OutI w w2 w.heap.size w2 (.slice (some ⟨w.heap.size, 0, none⟩) 0 0) 0 []) := ⟨own_grown (unhide HO1) g2, grown_trans (unhide HG1) g2, World.grownBy.refl _ _, fun g e => by simp [Value.ownBlock] at e; left; exact e.symm⟩
    have HR2 := hide ((unhide HR1).grown g2)
    clear oz g2 HO1 HR1 HG1 hs1
    go_wp2
    go_loopw [3, 5] (fun o i wr => ∃ k : Nat, k ≤ 64 ∧ i = .int .i64 k ∧ Hid (OutI w w2 w.heap.size wr o k ((zigged zs).take k))) (fun _ i _ => 64 - (intOf i).toNat)
    case atStart => exact ⟨0, Nat.zero_le _, rfl, HO2⟩
    case round =>
      obtain ⟨k, hk, rfl, hM⟩ := hrel
      obtain ⟨so2, sc2, rfl⟩ := own_form (unhide hM).own
      by_cases hlt : k < 64
      · obtain ⟨p, hp⟩ : ∃ p, zz k = p := ⟨_, rfl⟩
        have hp64 : p < 64 := by rw [← hp]; exact zz_lt k hlt
        obtain ⟨zb, zoff, rfl, hzc⟩ := (unhide HZZ).2 k (by rw [zz_len]; exact hlt)
        have ez : zzL.getD k 0 = (p : Int) := by rw [← hp]; exact zzF_eq k
        rw [ez] at hzc
        have hzc2 := (unhide hM).kept.cell hzc (fun e => unhide HZL zb zoff rfl (by simpa using e))
        obtain ⟨ab, aoff, rfl, hac⟩ := (unhide HR2).2 p hp64
        have hac2 := (unhide hM).kept.cell hac (fun e => unhide HRL ab aoff rfl (by simpa using e))
        have HV : Hid (zs.getD p 0 = (fun k => zs.getD (zz k) 0) k) := by unfold Hid; rw [← hp]
        have hzl : (zzL.length : Int) = 64 := by rw [zz_len]; rfl
        generalize zs.getD p 0 = z at hac2 HV
        clear hac hzc ez hp
        go_wp2_with (at_builtin; refine append_out rfl _ _ rfl w w2 w.heap.size _ k ((zigged zs).take k) rfl (unhide hM) _ rfl (by omega) ?_; intro v' w' ho)
        go_roundw
        case rel =>
          refine ⟨k + 1, by omega, by go_num, ?_⟩
          unfold zigged at ho
          rw [made_take _ k hlt _ (unhide HV)] at ho
          exact ho
        case measure => simp [intOf]; omega
      · obtain rfl : k = 64 := by omega
        have hM := unhide hM
        have e64 : (zigged zs).length = 64 := made_len _
        unfold zigged at hM
        rw [made_take_all] at hM
        have HM : Hid (OutI w w2 w.heap.size wr (.slice so2 64 sc2) 64 (zigged zs)) := hM
        have HE := hide e64
        clear hM e64
        go_wp2
        go_ret
        exact ⟨so2, sc2, by rw [unhide HE]; rfl, by rw [unhide HE]; exact (unhide HM).own, (unhide HM).base⟩

set_option maxRecDepth 20000 in
set_option maxHeartbeats 1600000 in
theorem specFromZig (ao : Option Addr) (n cap : Nat) (zs : List Int) (w : World) (hr : Rd .i64 w ao n zs) (b : Bool) (hb : Hid (numsB (-32767) 32767 zs = b)) (L : List Int) (HL : Hid ((if b then unzigged zs else []) = L)) :
    Calls Try.prog 47 #[.slice ao n cap] w fun e w' => ∃ so sc, e = .returned (.slice so L.length sc) ∧ w'.ownsRow w.heap.size 3 1 (.slice so L.length sc) L.length (L.map (Value.int .i64)) ∧ w.grownBy w' none := by
  obtain ⟨i0, hi, hz0, hz1, hz2⟩ := info_parts Try.info3
  have HR := hide hr
  have HN := hide hr.1
  have HLW := hide hr.lt
  clear hr
  go_enter Try.func47, Try.ntmps47
  go_wp2_with fail
  refine (specBlockOk ao n cap zs _ (unhide HR) b hb).mono ?_
  rintro e w1 ⟨rfl, g1⟩
  have HG1 := hide g1
  have HR1 := hide ((unhide HR).grown g1)
  clear g1 HR
  cases b with
  | false =>
    have e : L = [] := (unhide HL).symm
    subst e
    go_wp2
    go_ret
    exact ⟨_, _, rfl, own_base (World.ownsRow_lit w1 #[] 0 (Nat.le_refl _) (by unfold maxLen; omega) rfl) (unhide HG1).size, grown_alloc (unhide HG1) _⟩
  | true =>
    have hz := (nums_at (unhide hb)).1
    have hn : n = 64 := by rw [← unhide HN]; exact hz
    subst hn
    have e : L = unzigged zs := (unhide HL).symm
    subst e
    clear HL hb
    have HZ := hide hz
    clear hz
    go_wp2_with (at_make; refine wpList_make_full _ rfl _ _ 24 rfl w1.heap.size 3 i0 (.int .i64 0) 1 Try.underlying24 hi hz0 hz1 .i64 .i64 _ _ 64 rfl rfl rfl rfl (by rw [hz2]; omega) (by unfold maxLen; omega) (Nat.le_refl _) ?_)
    intro w2 hown hgrow
    have hown0 : w2.ownsRow w1.heap.size 3 1 (.slice (some ⟨w1.heap.size, 0, none⟩) 64 64) 64 ((unzTo zs 0).map (Value.int .i64)) := by
      rw [unz_zero]
      have e : (madeCells #[Value.int .i64 0] 64).toList = zs64.map (Value.int .i64) := by rw [toList_madeCells_one]; simp [zs64]
      rw [← e]; exact hown
    have HO2 := hide hown0
    have HG2 := hide (grown_trans (unhide HG1) hgrow)
    have HR2 := hide ((unhide HR1).grown hgrow)
    clear hown hown0 hgrow HR1 hi hz0 hz1 hz2
    go_wp2_with fail
    refine (specZigZag w2).mono ?_
    rintro e w3 ⟨zo, zc, rfl, oz, g3⟩
    have HZZ := hide (own_rd oz)
    have HZL : Hid (∀ b off, zo = some ⟨b, off, none⟩ → b ≠ w1.heap.size) := by
      intro b off e
      subst e
      have h := (oz.lt b (by simp [Value.ownBlock])).1
      have h2 := ((unhide HO2).lt w1.heap.size rfl).2
      omega
    have HRL : Hid (∀ b off, ao = some ⟨b, off, none⟩ → b ≠ w1.heap.size) := by
      intro b off e
      have h := unhide HLW (by omega) b off e
      have := (unhide HG1).size
      omega
    have HO3 := hide (own_grown (unhide HO2) g3)
    have HR3 := hide ((unhide HR2).grown g3)
    have HG3 := hide (grown_trans (unhide HG2) g3)
    clear oz g3 HO2 HR2 HG2
    go_wp2
    go_loopw [5] (fun i wr => ∃ k : Nat, k ≤ 64 ∧ i = .int .i64 k ∧ Hid (wr.ownsRow w1.heap.size 3 1 (.slice (some ⟨w1.heap.size, 0, none⟩) 64 64) 64 ((unzTo zs k).map (Value.int .i64))) ∧ Hid (w3.grownBy wr (some w1.heap.size))) (fun i _ => 64 - (intOf i).toNat)
    case atStart => exact ⟨0, Nat.zero_le _, rfl, HO3, World.grownBy.refl _ _⟩
    case round =>
      obtain ⟨k, hk, rfl, hM, hgk⟩ := hrel
      by_cases hlt : k < 64
      · obtain ⟨p, hp⟩ : ∃ p, zz k = p := ⟨_, rfl⟩
        have hp64 : p < 64 := by rw [← hp]; exact zz_lt k hlt
        obtain ⟨zb, zoff, rfl, hzc⟩ := (unhide HZZ).2 k (by rw [zz_len]; exact hlt)
        have ez : zzL.getD k 0 = (p : Int) := by rw [← hp]; exact zzF_eq k
        rw [ez] at hzc
        have hzc2 := (unhide hgk).cell hzc (fun e => unhide HZL zb zoff rfl (by simpa using e))
        obtain ⟨ab, aoff, rfl, hac⟩ := (unhide HR3).2 k hlt
        have hac2 := (unhide hgk).cell hac (fun e => unhide HRL ab aoff rfl (by simpa using e))
        have hzl : (zzL.length : Int) = 64 := by rw [zz_len]; rfl
        have hold : ∃ u, wr.cell? ⟨w1.heap.size, p, none⟩ = some u := by rw [(unhide hM).cellAt p (by omega)]; exact ⟨_, List.getElem?_eq_getElem (by rw [(unhide hM).1]; omega)⟩
        obtain ⟨u, hu⟩ := hold
        have hfr := (unhide hM).frozenAt p
        have HST : Hid ((wr.setCell ⟨w1.heap.size, p, none⟩ (.int .i64 (zs.getD k 0))).drew.ownsRow w1.heap.size 3 1 (.slice (some ⟨w1.heap.size, 0, none⟩) 64 64) 64 ((unzTo zs (k + 1)).map (Value.int .i64)) ∧ w3.grownBy (wr.setCell ⟨w1.heap.size, p, none⟩ (.int .i64 (zs.getD k 0))).drew (some w1.heap.size)) := by
          have st := (unhide hM).stored p (.int .i64 (zs.getD k 0))
          rw [← hp, unz_setL zs k hlt] at st
          rw [← hp]
          exact ⟨st.1, grown_drew (grown_trans (unhide hgk) st.2)⟩
        generalize zs.getD k 0 = z at hac2 HST
        clear ez hp hac hzc
        have hpI : (p : Int) < 64 := by omega
        have HZN : Hid (zb ≠ w1.heap.size) := unhide HZL zb zoff rfl
        have HAN : Hid (ab ≠ w1.heap.size) := unhide HRL ab aoff rfl
        go_wp2
        refine wp_region_noPanic ?_
        refine wp_region_tail (fun w' => w'.cell? ⟨zb, zoff + k, none⟩ = some (.int .i64 (p : Int)) ∧ w'.cell? ⟨ab, aoff + k, none⟩ = some (.int .i64 z)) [true, true, true, true, true, true, true, true, true, false, false] (by kernel_rfl) (fun _ _ _ _ _ h => h) rfl (by kernel_rfl) ⟨hzc2, hac2⟩ ?_
        iterate 9
          refine heldF_take (v := ?_) (Or.inl ⟨by rfl, ?_⟩) ?_
          rotate_left 1
          · intro w' hSw
            try dsimp only at hSw
            go_simp
            try with_reducible rfl
          simp only [Act.put, List.setIfInBounds_toArray, List.set_cons_zero, List.set_cons_succ]
        refine heldF_skip (heldF_skip (heldF_nil ?_))
        iterate 9 refine tailF_skip ?_
        refine tailF_step (fun K hK => ?_)
        go_simp
        refine hK.out _ _ ⟨hzc2, hac2⟩ ?_
        clear hK K
        refine tailF_step (fun K hK => ?_)
        go_simp
        refine hK.out _ _ ⟨(World.cell?_setCell_far _ _ _ _ (fun e => unhide HZN e.symm)).trans hzc2, (World.cell?_setCell_far _ _ _ _ (fun e => unhide HAN e.symm)).trans hac2⟩ ?_
        clear hK K
        refine tailF_nil (NoPanic.normal ?_)
        go_wp2
        go_roundw
        case rel => exact ⟨k + 1, by omega, by go_num, (unhide HST).1, (unhide HST).2⟩
        case measure => simp [intOf]; omega
      · obtain rfl : k = 64 := by omega
        have hM := unhide hM
        rw [unz_all] at hM
        have HM := hide hM
        have HE : Hid ((unzigged zs).length = 64) := made_len _
        clear hM
        go_wp2
        go_ret
        exact ⟨_, _, by rw [unhide HE]; rfl, by rw [unhide HE]; exact own_base (unhide HM) (unhide HG1).size, grown_new (unhide HG3) (unhide hgk) (fun g e => by simp at e; have := (unhide HG1).size; omega)⟩

end Go.Proofs.Ytfgglainjaplgaa

namespace Go.Proofs.Ytfgglainjaplgaa
open Go.RowKit

theorem rowsK_append (n m k : Nat) (hk : 0 < k) (U V : Nat → Nat → Value) : rowsK n k U ++ rowsK m k V = rowsK (n + m) k (fun i j => if i < n then U i j else V (i - n) j) := by
  apply List.ext_getElem?
  intro c
  by_cases h1 : c < n * k
  · rw [List.getElem?_append_left (by rw [rowsK_len]; exact h1)]
    have hi' : c / k < n := Nat.div_lt_of_lt_mul (by rw [Nat.mul_comm]; exact h1)
    have hm : c % k < k := Nat.mod_lt _ hk
    have hd : c = (c / k) * k + c % k := by have := Nat.div_add_mod c k; rw [Nat.mul_comm] at this; omega
    rw [hd, rowsK_get n k U _ _ hi' hm, rowsK_get (n + m) k _ _ _ (by omega) hm, if_pos hi']
  · obtain ⟨d, rfl⟩ : ∃ d, c = n * k + d := ⟨c - n * k, by omega⟩
    rw [List.getElem?_append_right (by rw [rowsK_len]; omega), rowsK_len, Nat.add_sub_cancel_left]
    have hd : d = (d / k) * k + d % k := by have := Nat.div_add_mod d k; rw [Nat.mul_comm] at this; omega
    have hm : d % k < k := Nat.mod_lt _ hk
    have hc : n * k + d = (n + d / k) * k + d % k := by rw [Nat.add_mul]; omega
    by_cases h2 : d < m * k
    · have hi' : d / k < m := Nat.div_lt_of_lt_mul (by rw [Nat.mul_comm]; exact h2)
      rw [hc, rowsK_get (n + m) k _ _ _ (Nat.add_lt_add_left hi' n) hm, if_neg (Nat.not_lt.2 (Nat.le_add_right _ _)), Nat.add_sub_cancel_left]
      have e9 := rowsK_get m k V (d / k) (d % k) hi' hm
      rw [← hd] at e9
      exact e9
    · rw [List.getElem?_eq_none (by rw [rowsK_len]; omega), List.getElem?_eq_none (by rw [rowsK_len, Nat.add_mul]; omega)]

theorem append_rowsG {α : Type} {P : World → (Nat → Value) → α → List Nat → Prop} (hP : OkG P) {e T : TypeId} {sz bytes : Nat} {z : Value} (hT : Try.prog.underlying T = some (.slice e)) (hI : (Try.prog.info? e).map (fun i => (i.zero, i.size, i.bytes)) = some (some z, sz, bytes)) (hzs : z.cells.size = sz) (hsz : 0 < sz) (hbt : bytes ≤ 1000)
    {w : World} {ops : Array Oper} {rest : List Oper} {o : Oper} {a : Act} {Q : Exit → Act → World → Prop} (hgd : o.guard = none) (s x : Operand)
    (ho : o.op = .call { callee := .builtin .append, args := #[s, x], argTypes := #[T, T] })
    (v : Value) (L : List α) (F : List Nat) (hs : a.eval s = v) (hown : OwG e sz P w v L F) (hF : F.Nodup)
    (cs : Array Value) (m : Nat) (V : Nat → Nat → Value) (hcs : cs.toList = rowsK m sz V) (M : List α) (hM : M.length = m) (Gs : List (List Nat)) (hGs : Gs.length = m) (hu : ∀ i (h : i < M.length), P w (V i) M[i] (Gs.getD i [])) (hG : Gs.flatten.Nodup) (hd : ∀ x ∈ Gs.flatten, x ∉ F) (h1c : ∀ u ∈ cs.toList, u.oneCell' = true)
    (H : Nat) (hH : w.heap.size = H) (hx : a.eval x = .slice (some ⟨H, 0, none⟩) m m) (hb : L.length + m ≤ 1000000) (R : List α) (hR : L ++ M = R)
    (h : ∀ v' w' F', OwG e sz P w' v' R F' → F'.Nodup → (∀ x ∈ F', x ∈ F ∨ x ∈ Gs.flatten ∨ w.heap.size ≤ x) → Wr (blk v) w w' → wpList Try.prog ops Q rest (a.put o.dst v') w') :
    wpList Try.prog ops Q (o :: rest) a (w.alloc (.cells cs e)) := by
  subst hR
  subst hH
  obtain ⟨i0, hi, hz0, hz1, hz2⟩ := info_parts hI
  obtain ⟨U, Fs, l2, o1, els, rfl⟩ := hown
  have hn := List.nodup_append.1 hF
  have hbb : (L.length + m) * bytes ≤ 1000000 * 1000 := Nat.mul_le_mul hb hbt
  refine wpList_append_own_at _ hgd s x T ho 0 e i0 _ sz bytes hT hi hz0 hz1 hz2 hzs hsz v L.length _ hs (o1.alloc _) ⟨w.heap.size, 0, none⟩ m m cs.toList hx (by rw [hcs, rowsK_len]) (World.news_of_block (cs := cs) (t := e) (fr := (0, 0)) (heap_alloc_new w _)) h1c (by unfold maxLen; omega) (by omega) (Nat.zero_le _) ?_
  intro v' w' h1 h2 _ h4
  have hga : w.grownBy w' v.ownBlock := ⟨h2.os, h2.tape, h2.output, by have h := h2.size; simp at h; omega, fun k hk hr => (h2.block k (by simp; omega) hr).trans (Below.heap_alloc _ _ _ hk)⟩
  have hw : Wr (blk v) w w' := Wr.ofRow hga (fun g e => mem_blk.2 e)
  have hvb : ∀ y, y ∈ blk v' → y ∈ blk v ∨ w.heap.size ≤ y := fun y hy => by
    rcases h4 with h4 | h4
    · exact .inl (mem_blk.2 (by rw [← h4]; exact mem_blk.1 hy))
    · have e1 := mem_blk.1 hy
      rw [h4] at e1
      have e2 : (w.alloc (.cells cs e)).heap.size = y := Option.some.inj e1
      exact .inr (by simp at e2; omega)
  have hfl : (Fs ++ Gs).flatten = Fs.flatten ++ Gs.flatten := by simp
  have hlt : ∀ y ∈ Fs.flatten, y < w.heap.size := fun y hy => by
    obtain ⟨l, hl, hyl⟩ := List.mem_flatten.1 hy
    obtain ⟨i, hi, rfl⟩ := List.mem_iff_getElem.1 hl
    exact hP.lt w _ _ _ (els i (by omega)) y (by simpa [hi] using hyl)
  have hltG : ∀ y ∈ Gs.flatten, y < w.heap.size := fun y hy => by
    obtain ⟨l, hl, hyl⟩ := List.mem_flatten.1 hy
    obtain ⟨i, hi, rfl⟩ := List.mem_iff_getElem.1 hl
    exact hP.lt w _ _ _ (hu i (by omega)) y (by simpa [hi] using hyl)
  refine h v' w' (blk v' ++ (Fs ++ Gs).flatten) ⟨fun i j => if i < L.length then U i j else V (i - L.length) j, Fs ++ Gs, by simp [l2, hGs, hM], ?_, fun i hi => ?_, rfl⟩ ?_ ?_ hw
  · rw [List.length_append, hM, ← rowsK_append L.length m sz hsz, ← hcs]; exact h1
  · by_cases hil : i < L.length
    · have e1 : (fun j => if i < L.length then U i j else V (i - L.length) j) = U i := by funext j; rw [if_pos hil]
      have e2 : (Fs ++ Gs).getD i [] = Fs.getD i [] := by simp [List.getElem?_append_left (show i < Fs.length by omega)]
      dsimp only
      rw [e1, e2, List.getElem_append_left hil]
      exact hP.wr (els i hil) hw (fun y hy hy2 => hn.2.2 y hy2 y (flat_in (by omega) y hy) rfl)
    · have him : i - L.length < M.length := by rw [List.length_append] at hi; omega
      have e1 : (fun j => if i < L.length then U i j else V (i - L.length) j) = V (i - L.length) := by funext j; rw [if_neg hil]
      have e2 : (Fs ++ Gs).getD i [] = Gs.getD (i - L.length) [] := by simp [List.getElem?_append_right (show Fs.length ≤ i by omega), l2]
      dsimp only
      rw [e1, e2, List.getElem_append_right (by omega)]
      exact hP.wr (hu (i - L.length) him) hw (fun y hy hy2 => hd y (flat_in (by omega) y hy) (by simp [hy2]))
  · rw [hfl]
    refine List.nodup_append.2 ⟨blk_nodup v', List.nodup_append.2 ⟨hn.2.1, hG, fun y hy z hz => ?_⟩, fun y hy z hz => ?_⟩
    · rintro rfl
      exact hd y hz (by simp [hy])
    · rintro rfl
      rcases List.mem_append.1 hz with hz | hz
      · rcases hvb y hy with h5 | h5
        · exact hn.2.2 y h5 y hz rfl
        · have := hlt y hz; omega
      · rcases hvb y hy with h5 | h5
        · exact hd y hz (by simp [h5])
        · have := hltG y hz; omega
  · intro y hy
    rw [hfl] at hy
    rcases List.mem_append.1 hy with hy | hy
    · rcases hvb y hy with h5 | h5
      · exact .inl (by simp [h5])
      · exact .inr (.inr h5)
    · rcases List.mem_append.1 hy with hy | hy
      · exact .inl (by simp [hy])
      · exact .inr (.inl hy)

end Go.Proofs.Ytfgglainjaplgaa

namespace Go.Proofs.Ytfgglainjaplgaa
open Go.RowKit

theorem info_iS : (Try.prog.info? 3).map (fun i => (i.zero, i.size, i.bytes)) = some (some (.int .i64 0), 1, 8) := by kernel_rfl
theorem append_intS {w : World} {ops : Array Oper} {rest : List Oper} {o : Oper} {a : Act} {Q : Exit → Act → World → Prop} (hgd : o.guard = none) (s x : Operand)
    (ho : o.op = .call { callee := .builtin .append, args := #[s, x], argTypes := #[24, 24] })
    (base : Nat) (v : Value) (L : List Int) (hs : a.eval s = v) (hown : w.ownsRow base 3 1 v L.length (L.map (Value.int .i64))) (t : Int) (hx : a.eval x = .slice (some ⟨w.heap.size, 0, none⟩) 1 1) (hb : L.length ≤ 2000000) (hbase : base ≤ w.heap.size) (R : List Int) (hR : L ++ [t] = R)
    (hK : ∀ v' w', w'.ownsRow base 3 1 v' R.length (R.map (Value.int .i64)) → w.grownBy w' v.ownBlock → (v'.ownBlock = v.ownBlock ∨ ∀ g, v'.ownBlock = some g → w.heap.size ≤ g) → wpList Try.prog ops Q rest (a.put o.dst v') w') :
    wpList Try.prog ops Q (o :: rest) a (w.alloc (.cells #[.int .i64 t] 3)) := by
  subst hR
  obtain ⟨i0, hi, hz0, hz1, hz2⟩ := info_parts info_iS
  refine wpList_append_own_at _ hgd s x 24 ho base 3 i0 _ 1 8 Try.underlying24 hi hz0 hz1 hz2 rfl (by decide) v L.length _ hs (hown.alloc _) ⟨w.heap.size, 0, none⟩ 1 1 [.int .i64 t] hx rfl (World.news_of_block (cs := #[.int .i64 t]) (t := 3) (fr := (0, 0)) (heap_alloc_new w _)) (by intro u hu; simp at hu; subst hu; rfl) (by unfold maxLen; omega) (by omega) (by simp; omega) ?_
  intro v' w' h1 h2 _ h4
  refine hK v' w' ?_ ⟨h2.os, h2.tape, h2.output, by have h := h2.size; simp at h; omega, fun k hk hr => (h2.block k (by simp; omega) hr).trans (Below.heap_alloc _ _ _ hk)⟩ ?_
  · rw [List.map_append, List.length_append]; exact h1
  · rcases h4 with h4 | h4
    · exact .inl h4
    · refine .inr fun g e => ?_
      rw [h4] at e
      have e2 : (w.alloc (.cells #[.int .i64 t] 3)).heap.size = g := Option.some.inj e
      simp at e2; omega

end Go.Proofs.Ytfgglainjaplgaa

namespace Go.Proofs.Ytfgglainjaplgaa
open Go.RowKit

set_option maxHeartbeats 800000 in
theorem specCut (n : Int) (lo : Nat) (hn : -32767 ≤ n ∧ n ≤ 32767) (hlo : lo ≤ 62) (w : World) :
    Calls Try.prog 40 #[.int .i64 n, .int .i64 lo] w fun e w' => e = .returned (.int .i64 (cutI n lo)) ∧ w = w' := by
  have hp := pow2_pos lo
  have key : ∀ a : Int, 0 ≤ a → 0 ≤ a / 2 ^ lo ∧ a / 2 ^ lo ≤ a := fun a ha => ⟨Int.ediv_nonneg ha (Int.le_of_lt hp), Int.ediv_le_self _ ha⟩
  have l0 : (0 : Int) ≤ (lo : Int) := by omega
  have l1 : ¬ ((lo : Int) < 0) := by omega
  have l2 : (lo : Int).toNat = lo := rfl
  by_cases h : n < 0
  · have hd : decide (n < 0) = true := decide_eq_true h
    have k := key (-n) (by omega)
    have e1 := i64_in (-n) (by omega)
    have e2 := i64_in (-(-n / 2 ^ lo)) (by omega)
    have e3 := i64_in (-n / 2 ^ lo) (by omega)
    have ec : cutI n lo = -(-n / 2 ^ lo) := by unfold cutI; rw [if_pos h]
    rw [ec]
    clear ec k key
    go_enter Try.func40, Try.ntmps40
    go_wp2
    go_ret
    exact ⟨rfl, rfl⟩
  · have hd : decide (n < 0) = false := decide_eq_false h
    have k := key n (by omega)
    have e3 := i64_in (n / 2 ^ lo) (by omega)
    have ec : cutI n lo = n / 2 ^ lo := by unfold cutI; rw [if_neg h]
    rw [ec]
    clear ec k key
    go_enter Try.func40, Try.ntmps40
    go_wp2
    go_ret
    exact ⟨rfl, rfl⟩

theorem specLevel13 (ao : Option Addr) (n cap : Nat) (zs : List Int) (w : World) (hr : Rd .i64 w ao n zs) (b : Bool) (hb : Hid (levB (-16383) 16383 zs = b)) :
    Calls Try.prog 38 #[.slice ao n cap] w fun e w' => e = .returned (.bool b) ∧ w.grownBy w' none := by
  have HR := hide hr
  clear hr
  go_enter Try.func38, Try.ntmps38
  go_wp2_with fail
  refine (specLev ao n cap zs (-16383) 16383 w (unhide HR) b hb).mono ?_
  rintro e w1 ⟨rfl, g1⟩
  go_wp2
  go_ret
  exact ⟨rfl, g1⟩

theorem step_append_intS {w : World} {ops : Array Oper} {o : Oper} {a : Act} {K : Act → World → Prop} {Q : Exit → Act → World → Prop} {E : Prop} (hgd : o.guard = none) (s x : Operand)
    (ho : o.op = .call { callee := .builtin .append, args := #[s, x], argTypes := #[24, 24] })
    (base : Nat) (v : Value) (L : List Int) (hs : a.eval s = v) (hown : w.ownsRow base 3 1 v L.length (L.map (Value.int .i64))) (t : Int) (hx : a.eval x = .slice (some ⟨w.heap.size, 0, none⟩) 1 1) (hb : L.length ≤ 900000) (hbase : base ≤ w.heap.size) (R : List Int) (hR : L ++ [t] = R)
    (h : ∀ v' w', w'.ownsRow base 3 1 v' R.length (R.map (Value.int .i64)) → w.grownBy w' v.ownBlock → (v'.ownBlock = v.ownBlock ∨ ∀ g, v'.ownBlock = some g → w.heap.size ≤ g) → K (a.put o.dst v') w') :
    if Region.wanted o (yielded ops a.tmps) = true then Oper.wp Try.prog o a (w.alloc (.cells #[.int .i64 t] 3)) K Q else E := by
  subst hR
  obtain ⟨i0, hi, hz0, hz1, hz2⟩ := info_parts info_iS
  refine step_append_lies _ hgd s x 24 ho base 3 i0 (.int .i64 0) 1 8 Try.underlying24 hi hz0 hz1 hz2 rfl (by decide) v L.length _ hs (hown.alloc _) ⟨w.heap.size, 0, none⟩ 1 1 [.int .i64 t] hx rfl (World.news_of_block (cs := #[.int .i64 t]) (t := 3) (fr := (0, 0)) (heap_alloc_new w _)) (by intro u hu; simp at hu; subst hu; rfl) (by omega) (by unfold maxLen; omega) (by omega) (by simp; omega) _ rfl ?_
  intro g cap w' h1 h2 h4 _
  refine h _ w' (by rw [List.map_append, List.length_append]; exact h1) ⟨h2.os, h2.tape, h2.output, by have h := h2.size; simp at h; omega, fun k hk hr => (h2.block k (by simp; omega) hr).trans (Below.heap_alloc _ _ _ hk)⟩ ?_
  rcases h4 with h4 | h4
  · exact .inl h4.symm
  · refine .inr fun q e => ?_
    have e2 : g = q := Option.some.inj e
    simp at h4
    omega

end Go.Proofs.Ytfgglainjaplgaa

namespace Go.Proofs.Ytfgglainjaplgaa
open Go.RowKit

/-- A list while it is made, beside the scan in its box and the block's numbers in the order of waves. -/
structure Fo (w wr : World) (sx : Array Value) (v : Value) (A : List Int) (zb zc : Nat) (Z : List Int) : Prop where
  sc : wr.heap[w.heap.size]? = some (.cells sx 26 (0, 0))
  own : wr.ownsRow (w.heap.size + 1) 3 1 v A.length (A.map (Value.int .i64))
  zs : wr.ownsRow (w.heap.size + 1) 3 1 (.slice (some ⟨zb, 0, none⟩) 64 zc) 64 (Z.map (Value.int .i64))
  ne : ∀ g, v.ownBlock = some g → g ≠ zb
  grown : w.grownBy wr none
theorem Fo.size {w wr : World} {sx : Array Value} {v : Value} {A : List Int} {zb zc : Nat} {Z : List Int} (h : Fo w wr sx v A zb zc Z) : w.heap.size + 1 ≤ wr.heap.size := (Array.getElem?_eq_some_iff.1 h.sc).1
theorem Fo.new {w wr w' : World} {sx : Array Value} {v : Value} {A : List Int} {zb zc : Nat} {Z : List Int} (h : Fo w wr sx v A zb zc Z) (g : wr.grownBy w' none) : Fo w w' sx v A zb zc Z :=
  ⟨at_rowS g h.sc (by simp), own_grown h.own g, own_grown h.zs g, h.ne, grown_trans h.grown g⟩
theorem Fo.more {w wr w' : World} {sx : Array Value} {v v' : Value} {A B : List Int} {zb zc : Nat} {Z : List Int} (h : Fo w wr sx v A zb zc Z) (o : w'.ownsRow (w.heap.size + 1) 3 1 v' B.length (B.map (Value.int .i64))) (g : wr.grownBy w' v.ownBlock) (hat : v'.ownBlock = v.ownBlock ∨ ∀ g, v'.ownBlock = some g → wr.heap.size ≤ g) : Fo w w' sx v' B zb zc Z := by
  refine ⟨at_rowS g h.sc (fun e => by have := (h.own.lt _ e).1; omega), o, own_beneath h.zs g (fun p q h1 h2 e => ?_), fun q e => ?_, grown_new h.grown g (fun q e => by have := (h.own.lt _ e).1; omega)⟩
  · have e1 : zb = p := Option.some.inj h1
    exact h.ne q h2 (by omega)
  · rcases hat with h1 | h1
    · exact h.ne q (by rw [← h1]; exact e)
    · have h2 := h1 q e
      have h3 := (h.zs.lt zb rfl).2
      omega
theorem Fo.at {w wr : World} {sx : Array Value} {v : Value} {A : List Int} {zb zc : Nat} {Z : List Int} (h : Fo w wr sx v A zb zc Z) (hZ : Z.length = 64) (k : Nat) (hk : k < 64) : wr.cell? ⟨zb, k, none⟩ = some (.int .i64 (Z.getD k 0)) := by
  rw [h.zs.cellAt k (by omega)]
  simp [hZ, hk]
theorem zigged_len (zs : List Int) : (zigged zs).length = 64 := made_len _
theorem lev_nums {zs : List Int} (h : levB (-16383) 16383 zs = true) : numsB (-32767) 32767 zs = true := by
  obtain ⟨h1, h2⟩ := lev_at h
  exact nums_all h1 (fun j hj => by have := h2 j hj; omega)

set_option maxRecDepth 20000 in
set_option maxHeartbeats 1600000 in
theorem specFirstOf (ao : Option Addr) (n cap : Nat) (zs : List Int) (w : World) (hr : Rd .i64 w ao n zs) (vo : Option Addr) (vn vc : Nat) (a : Scn) (L : List Int) (HL : Hid (firstG zs a = L)) :
    Calls Try.prog 14 #[.slice ao n cap, .agg #[.slice vo vn vc, .int .i64 a.fr, .int .i64 a.to, .int .i64 a.hi, .int .i64 a.lo]] w fun e w' => ∃ so sc, e = .returned (.slice so L.length sc) ∧ w'.ownsRow w.heap.size 3 1 (.slice so L.length sc) L.length (L.map (Value.int .i64)) ∧ w.grownBy w' none := by
  obtain ⟨b1, HB1⟩ : ∃ b, Hid (levB (-16383) 16383 zs = b) := ⟨_, rfl⟩
  obtain ⟨b2, HB2⟩ : ∃ b, Hid (passB a = b) := ⟨_, rfl⟩
  have HBITS := hide (fun W => specBits W vo vn vc a b2 HB2)
  have hp := unhide HL
  unfold firstG at hp
  rw [unhide HB1, unhide HB2] at hp
  have hpin : b2 = true → 0 ≤ a.fr ∧ a.fr ≤ a.to ∧ a.to ≤ 63 ∧ 0 ≤ a.lo ∧ a.lo ≤ 13 := fun e => by
    have h := unhide HB2
    rw [e] at h
    unfold passB at h
    simp only [Bool.and_eq_true, decide_eq_true_eq] at h
    omega
  have epl : placesOf a = (a.to - a.fr + 1).toNat := rfl
  rw [epl] at hp
  obtain ⟨cs, fr, to, hi, lo⟩ := a
  dsimp only at HBITS hp hpin ⊢
  obtain ⟨W2, HW2⟩ : ∃ W2, Hid ((w.alloc (.cells #[.slice vo vn vc, .int .i64 fr, .int .i64 to, .int .i64 hi, .int .i64 lo] 26)).alloc (.cells #[] 3) = W2) := ⟨_, rfl⟩
  have G0 : w.grownBy W2 none := by rw [← unhide HW2]; exact grown_alloc (grown_alloc (World.grownBy.refl _ _) _) _
  have HB0 : Hid (W2.heap[w.heap.size]? = some (.cells #[.slice vo vn vc, .int .i64 fr, .int .i64 to, .int .i64 hi, .int .i64 lo] 26 (0, 0))) := by
    rw [← unhide HW2]
    exact at_rowS (World.grownBy_alloc _ _ none) (heap_alloc_new w _) (by simp)
  have HO0 : Hid (W2.ownsRow (w.heap.size + 1) 3 1 (.slice (some ⟨w.heap.size + 1, 0, none⟩) 0 0) 0 []) := by
    rw [← unhide HW2]
    have := World.ownsRow_lit (w.alloc (.cells #[.slice vo vn vc, .int .i64 fr, .int .i64 to, .int .i64 hi, .int .i64 lo] 26)) (e := 3) (size := 1) (base := w.heap.size + 1) #[] 0 (by simp) (by unfold maxLen; omega) rfl
    unfold Hid
    simpa using this
  have HLV := hide (specLevel13 ao n cap zs W2 (hr.grown G0) b1 HB1)
  have HR := hide hr
  have HG0 := hide G0
  have HP := hide hp
  have HPIN := hide hpin
  clear hr G0 hp hpin epl HL
  go_enter Try.func14, Try.ntmps14
  go_wp2_with fail
  rw [unhide HW2]
  clear HW2
  refine (unhide HLV).mono ?_
  rintro e w3 ⟨rfl, g3⟩
  have HG3 := hide (grown_trans (unhide HG0) g3)
  have HB3 := hide (at_rowS g3 (unhide HB0) (by simp))
  have HO3 := hide (own_grown (unhide HO0) g3)
  clear g3 HG0 HB0 HO0 HLV
  have HNIL : Hid (∀ W, w3.grownBy W none → L = [] → ∃ so sc, Ending.returned (.slice (some ⟨w.heap.size + 1, 0, none⟩) 0 0) = .returned (.slice so L.length sc) ∧ W.ownsRow w.heap.size 3 1 (.slice so L.length sc) L.length (L.map (Value.int .i64)) ∧ w.grownBy W none) := fun W g e => by
    subst e
    exact ⟨_, _, rfl, own_base (own_grown (unhide HO3) g) (by omega), grown_trans (unhide HG3) g⟩
  cases b1 with
  | false =>
    have HN := hide (unhide HNIL w3 (World.grownBy.refl _ _) (unhide HP).symm)
    go_wp2
    go_ret
    exact unhide HN
  | true =>
    obtain ⟨c0, c1, c2, c3, c4⟩ := scanCells (unhide HB3)
    go_wp2_with fail
    clear c0 c1 c2 c3 c4
    refine (unhide HBITS w3).mono ?_
    rintro e w4 ⟨rfl, g4⟩
    have HB4 := hide (at_rowS g4 (unhide HB3) (by simp))
    have HG4 := hide g4
    clear g4 HBITS
    obtain ⟨c0, c1, c2, c3, c4⟩ := scanCells (unhide HB4)
    cases b2 with
    | false =>
      have HN := hide (unhide HNIL w4 (unhide HG4) (unhide HP).symm)
      go_wp2
      go_ret
      exact unhide HN
    | true =>
      by_cases h0 : hi = 0
      · have n0 : (hi == 0) = true := by simp [h0]
        have HP2 : Hid (firstL (zigged zs) fr.toNat (to - fr + 1).toNat lo.toNat = L) := by
          have h := unhide HP
          rw [decide_eq_true h0] at h
          exact h
        obtain ⟨p1, p2, p3, p4, p5⟩ := unhide HPIN rfl
        obtain ⟨k0, rfl⟩ := Int.eq_ofNat_of_zero_le p1
        obtain ⟨k1, rfl⟩ := Int.eq_ofNat_of_zero_le (show 0 ≤ to by omega)
        obtain ⟨l0, rfl⟩ := Int.eq_ofNat_of_zero_le p4
        have em : ((k1 : Int) - (k0 : Int) + 1).toNat = k1 + 1 - k0 := by omega
        rw [em, Int.toNat_natCast, Int.toNat_natCast] at HP2
        have HTZ := hide (specToZig ao n cap zs w4 ((unhide HR).grown (grown_trans (unhide HG3) (unhide HG4))) true (lev_nums (unhide HB1)) (zigged zs) rfl)
        clear h0 em HNIL HP HPIN
        go_wp2_with fail
        clear c0 c1 c2 c3 c4 n0
        refine (unhide HTZ).mono ?_
        rintro e w5 ⟨zo, zc, rfl, o5, g5⟩
        rw [zigged_len] at o5 ⊢
        obtain ⟨zb, rfl, hzb, _⟩ := own_at o5 (by omega)
        obtain ⟨Z, HZ⟩ : ∃ Z, Hid (zigged zs = Z) := ⟨_, rfl⟩
        have HZL : Hid (Z.length = 64) := by rw [← unhide HZ]; exact zigged_len zs
        have HLZ : Hid (∀ j, j < 64 → -16383 ≤ Z.getD j 0 ∧ Z.getD j 0 ≤ 16383) := fun j hj => by
          rw [← unhide HZ]
          unfold zigged
          rw [made_at _ j hj]
          exact (lev_at (unhide HB1)).2 _ (zz_lt j hj)
        rw [unhide HZ] at o5 HP2
        have hs3 : w.heap.size + 1 < w3.heap.size := ((unhide HO3).lt _ rfl).2
        have hs4 := (unhide HG4).size
        have HF5 : Hid (Fo w w5 #[.slice vo vn vc, .int .i64 k0, .int .i64 k1, .int .i64 hi, .int .i64 l0] (.slice (some ⟨w.heap.size + 1, 0, none⟩) 0 0) [] zb zc Z) :=
          ⟨at_rowS g5 (unhide HB4) (by simp), own_grown (own_grown (unhide HO3) (unhide HG4)) g5, own_base o5 (by omega), fun g e => by have e1 : w.heap.size + 1 = g := Option.some.inj e; omega, grown_trans (grown_trans (unhide HG3) (unhide HG4)) g5⟩
        clear o5 g5 HTZ HG3 HO3 HB3 HG4 HB4 hzb hs3 hs4 HZ
        obtain ⟨c0, c1, c2, c3, c4⟩ := scanCells (unhide HF5).sc
        go_wp2
        clear c0 c1 c2 c3 c4
        go_loopw [5, 7] (fun ov kv wr => ∃ (m : Nat) (so : Option Addr) (sc : Nat), m ≤ k1 + 1 - k0 ∧ kv = .int .i64 (k0 + m : Nat) ∧ ov = .slice so m sc ∧ Hid (Fo w wr #[.slice vo vn vc, .int .i64 k0, .int .i64 k1, .int .i64 hi, .int .i64 l0] (.slice so m sc) (firstL Z k0 m l0) zb zc Z)) (fun _ kv _ => k1 + 1 - (intOf kv).toNat)
        case atStart => exact ⟨0, _, _, Nat.zero_le _, rfl, rfl, HF5⟩
        case round =>
          clear HF5
          obtain ⟨m, so, sc, hm, rfl, rfl, hF⟩ := hrel
          obtain ⟨d0, d1, d2, d3, d4⟩ := scanCells (unhide hF).sc
          by_cases hlt : m < k1 + 1 - k0
          · obtain ⟨kk, HKK⟩ : ∃ kk, Hid (k0 + m = kk) := ⟨_, rfl⟩
            have hkk : kk ≤ k1 := by have := unhide HKK; omega
            have hd : decide ((kk : Int) ≤ (k1 : Int)) = true := decide_eq_true (by omega)
            have i0 : (0 : Int) ≤ (kk : Int) := by omega
            have i1 : (kk : Int) < 64 := by omega
            rw [unhide HKK]
            have zc1 := (unhide hF).at (unhide HZL) kk (by omega)
            have hlev := unhide HLZ kk (by omega)
            obtain ⟨A, HA⟩ : ∃ A, Hid (firstL Z k0 m l0 = A) := ⟨_, rfl⟩
            obtain ⟨R, HRR⟩ : ∃ R, Hid (firstL Z k0 (m + 1) l0 = R) := ⟨_, rfl⟩
            have HAL : Hid (A.length = m) := by unfold Hid; rw [← unhide HA]; simp [firstL]
            have HRL : Hid (R.length = m + 1) := by unfold Hid; rw [← unhide HRR]; simp [firstL]
            have HNX : Hid (A ++ [cutI (Z.getD kk 0) l0] = R) := by
              unfold Hid
              rw [← unhide HA, ← unhide HRR, ← unhide HKK]
              unfold firstL
              rw [List.range_succ, List.map_append]
              rfl
            generalize Z.getD kk 0 = zv at zc1 hlev HNX
            have HCUT := hide (fun W => specCut zv l0 (by omega) (by omega) W)
            obtain ⟨cv, HCV⟩ : ∃ cv, Hid (cutI zv l0 = cv) := ⟨_, rfl⟩
            rw [unhide HCV] at HCUT HNX
            rw [unhide HA] at hF
            have hsz := (unhide hF).size
            have HFD := hide ((unhide hF).new (grown_drew (World.grownBy.refl wr none)))
            have HZB : Hid (∀ g, Value.ownBlock (.slice so m sc) = some g → g ≠ zb) := (unhide hF).ne
            clear HA hlev HCV
            go_wp2
            refine wp_region_noPanic ?_
            refine wp_region_tail (fun W => W.cell? ⟨zb, kk, none⟩ = some (.int .i64 zv) ∧ W.cell? ⟨w.heap.size, 4, none⟩ = some (.int .i64 l0)) [true, true, true, true, true, true, true, false, false, false, false] (by kernel_rfl) (fun _ _ _ _ _ h => h) rfl (by kernel_rfl) ⟨zc1, d4⟩ ?_
            iterate 7
              refine heldF_take (v := ?_) (Or.inl ⟨by rfl, ?_⟩) ?_
              rotate_left 1
              · intro w' hSw
                try dsimp only at hSw
                obtain ⟨y1, y2⟩ := hSw
                go_simp
                try with_reducible rfl
              simp only [Act.put, List.setIfInBounds_toArray, List.set_cons_zero, List.set_cons_succ]
            refine heldF_skip (heldF_skip (heldF_skip (heldF_skip (heldF_nil ?_))))
            iterate 7 refine tailF_skip ?_
            refine tailF_step (fun K hK => ?_)
            go_simp
            refine (unhide HCUT _).mono ?_
            rintro e w3 ⟨rfl, rfl⟩
            refine hK.out _ _ ⟨zc1, d4⟩ ?_
            clear hK K
            refine tailF_step (fun K hK => ?_)
            go_simp
            have gA := World.grownBy_alloc wr.drew (.cells #[.int .i64 cv] 3) none
            refine hK.out _ _ ⟨gA.cell zc1 (by simp), gA.cell d4 (by simp)⟩ ?_
            clear hK K gA
            refine tailF_step (fun K hK => ?_)
            refine step_append_intS (w := wr.drew) (by rfl) _ _ (by rfl) (w.heap.size + 1) (.slice so m sc) A (by rfl) (unhide HFD).own cv (by rfl) (by rw [unhide HAL]; omega) hsz R (unhide HNX) ?_
            intro v4 w4 o4 g4 hat4
            have HF4 := hide ((unhide HFD).more o4 g4 hat4)
            have hk1 : w4.cell? ⟨zb, kk, none⟩ = some (.int .i64 zv) := g4.cell zc1 (fun e => unhide HZB zb e.symm rfl)
            have hk2 : w4.cell? ⟨w.heap.size, 4, none⟩ = some (.int .i64 l0) := (scanCells (unhide HF4).sc).2.2.2.2
            refine hK.out _ _ ⟨hk1, hk2⟩ ?_
            clear hK K
            rw [unhide HRL] at o4
            obtain ⟨so4, sc4, rfl⟩ := own_form o4
            try simp only [Act.put, List.setIfInBounds_toArray, List.set_cons_zero, List.set_cons_succ]
            refine tailF_step (fun K hK => ?_)
            go_simp
            refine hK.out _ _ ⟨hk1, hk2⟩ ?_
            clear hK K
            refine tailF_nil (NoPanic.normal ?_)
            rw [← unhide HRR] at HF4
            clear o4 g4 hat4 hk1 hk2 d0 d1 d2 d3 d4 zc1 HFD hF HNX HAL HRL HRR HCUT
            go_wp2
            go_roundw
            case rel => exact ⟨m + 1, so4, sc4, by omega, by rw [show k0 + (m + 1) = kk + 1 by have := unhide HKK; omega]; go_num, rfl, HF4⟩
            case measure => have := unhide HKK; simp [intOf]; omega
          · obtain rfl : m = k1 + 1 - k0 := by omega
            have hd : decide (((k0 + (k1 + 1 - k0) : Nat) : Int) ≤ (k1 : Int)) = false := decide_eq_false (by omega)
            rw [unhide HP2] at hF
            have hLl : L.length = k1 + 1 - k0 := by rw [← unhide HP2]; simp [firstL]
            have HRES : Hid (∃ so' sc', Ending.returned (.slice so (k1 + 1 - k0) sc) = .returned (.slice so' L.length sc') ∧ wr.ownsRow w.heap.size 3 1 (.slice so' L.length sc') L.length (L.map (Value.int .i64)) ∧ w.grownBy wr none) := by
              refine ⟨so, sc, by rw [hLl], ?_, (unhide hF).grown⟩
              have h := (unhide hF).own
              rw [← hLl] at h
              exact own_base h (by omega)
            clear hLl hF
            go_wp2
            go_ret
            exact unhide HRES
      · have n0 : (hi == 0) = false := by simp [h0]
        have e : L = [] := by
          have h := unhide HP
          rw [decide_eq_false h0] at h
          exact h.symm
        have HN := hide (unhide HNIL w4 (unhide HG4) e)
        go_wp2
        go_ret
        exact unhide HN

end Go.Proofs.Ytfgglainjaplgaa

namespace Go.Proofs.Ytfgglainjaplgaa
open Go.RowKit

/-- The block's numbers in the order of waves while they are written, beside the scan in its box. -/
structure Pz (w wr : World) (sx : Array Value) (zb zc : Nat) (Z : List Int) : Prop where
  sc : wr.heap[w.heap.size]? = some (.cells sx 26 (0, 0))
  zs : wr.ownsRow (w.heap.size + 1) 3 1 (.slice (some ⟨zb, 0, none⟩) 64 zc) 64 (Z.map (Value.int .i64))
  len : Z.length = 64
  lev : ∀ j, j < 64 → -16383 ≤ Z.getD j 0 ∧ Z.getD j 0 ≤ 16383
  grown : w.grownBy wr none
theorem Pz.new {w wr w' : World} {sx : Array Value} {zb zc : Nat} {Z : List Int} (h : Pz w wr sx zb zc Z) (g : wr.grownBy w' none) : Pz w w' sx zb zc Z :=
  ⟨at_rowS g h.sc (by simp), own_grown h.zs g, h.len, h.lev, grown_trans h.grown g⟩
theorem Pz.lo {w wr : World} {sx : Array Value} {zb zc : Nat} {Z : List Int} (h : Pz w wr sx zb zc Z) : w.heap.size + 1 ≤ zb := (h.zs.lt zb rfl).1
theorem Pz.at {w wr : World} {sx : Array Value} {zb zc : Nat} {Z : List Int} (h : Pz w wr sx zb zc Z) (k : Nat) (hk : k < 64) : wr.cell? ⟨zb, k, none⟩ = some (.int .i64 (Z.getD k 0)) := by
  rw [h.zs.cellAt k (by omega)]
  simp [h.len, hk]
theorem Pz.put {w wr : World} {sx : Array Value} {zb zc : Nat} {Z : List Int} (h : Pz w wr sx zb zc Z) (k : Nat) (v : Int) (hv : -16383 ≤ v ∧ v ≤ 16383) : Pz w (wr.setCell ⟨zb, k, none⟩ (.int .i64 v)) sx zb zc (Z.set k v) := by
  have hl := h.lo
  have g := grown_set wr zb k (.int .i64 v)
  have st := h.zs.stored k (.int .i64 v)
  refine ⟨at_rowS g h.sc (fun e => by injection e with e; omega), ?_, by rw [List.length_set]; exact h.len, fun j hj => ?_, grown_new h.grown g (fun q e => by injection e with e; omega)⟩
  · rw [List.map_set]; exact st.1
  · by_cases e : k = j
    · subst e
      simp [h.len, hj]
      exact hv
    · have := h.lev j hj
      simpa [e] using this
theorem Pz.nums {w wr : World} {sx : Array Value} {zb zc : Nat} {Z : List Int} (h : Pz w wr sx zb zc Z) : numsB (-32767) 32767 Z = true := nums_all h.len (fun j hj => by have := h.lev j hj; omega)
theorem Pz.rd {w wr : World} {sx : Array Value} {zb zc : Nat} {Z : List Int} (h : Pz w wr sx zb zc Z) : Rd .i64 wr (some ⟨zb, 0, none⟩) 64 Z :=
  ⟨h.len, fun i hi => ⟨zb, 0, rfl, by rw [Nat.zero_add]; exact h.at i hi⟩⟩
theorem pow13 (l : Nat) (h : l ≤ 13) : (1 : Int) ≤ 2 ^ l ∧ (2 : Int) ^ l ≤ 8192 := by
  have : l = 0 ∨ l = 1 ∨ l = 2 ∨ l = 3 ∨ l = 4 ∨ l = 5 ∨ l = 6 ∨ l = 7 ∨ l = 8 ∨ l = 9 ∨ l = 10 ∨ l = 11 ∨ l = 12 ∨ l = 13 := by omega
  rcases this with rfl | rfl | rfl | rfl | rfl | rfl | rfl | rfl | rfl | rfl | rfl | rfl | rfl | rfl <;> decide
theorem mul13 {n p : Int} (hn : -16383 ≤ n ∧ n ≤ 16383) (hp : 1 ≤ p ∧ p ≤ 8192) : -134209536 ≤ n * p ∧ n * p ≤ 134209536 := by
  have h1 : n * p ≤ 16383 * p := Int.mul_le_mul_of_nonneg_right hn.2 (by omega)
  have h2 : -16383 * p ≤ n * p := Int.mul_le_mul_of_nonneg_right hn.1 (by omega)
  omega

set_option maxRecDepth 20000 in
set_option maxHeartbeats 3200000 in
theorem specPutFirst (ao : Option Addr) (n cap : Nat) (zs : List Int) (w : World) (hr : Rd .i64 w ao n zs) (vo : Option Addr) (vn vc : Nat) (a : Scn) (lo' : Option Addr) (ln lc : Nat) (ls : List Int) (hls : Rd .i64 w lo' ln ls) (hln : ln ≤ 4194304) (L : List Int) (HL : Hid (putFirstG zs a ls = L)) :
    Calls Try.prog 30 #[.slice ao n cap, .agg #[.slice vo vn vc, .int .i64 a.fr, .int .i64 a.to, .int .i64 a.hi, .int .i64 a.lo], .slice lo' ln lc] w fun e w' => ∃ so sc, e = .returned (.slice so L.length sc) ∧ w'.ownsRow w.heap.size 3 1 (.slice so L.length sc) L.length (L.map (Value.int .i64)) ∧ w.grownBy w' none := by
  obtain ⟨b1, HB1⟩ : ∃ b, Hid (levB (-16383) 16383 zs = b) := ⟨_, rfl⟩
  obtain ⟨b2, HB2⟩ : ∃ b, Hid (passB a = b) := ⟨_, rfl⟩
  have HBITS := hide (fun W => specBits W vo vn vc a b2 HB2)
  have hp := unhide HL
  unfold putFirstG at hp
  rw [unhide HB1, unhide HB2] at hp
  have hpin : b2 = true → 0 ≤ a.fr ∧ a.fr ≤ a.to ∧ a.to ≤ 63 ∧ 0 ≤ a.lo ∧ a.lo ≤ 13 := fun e => by
    have h := unhide HB2
    rw [e] at h
    unfold passB at h
    simp only [Bool.and_eq_true, decide_eq_true_eq] at h
    omega
  have epl : placesOf a = (a.to - a.fr + 1).toNat := rfl
  rw [epl, hls.1] at hp
  have hll := hls.1
  obtain ⟨cs, fr, to, hi, lo⟩ := a
  dsimp only at HBITS hp hpin ⊢
  have G0 : w.grownBy (w.alloc (.cells #[.slice vo vn vc, .int .i64 fr, .int .i64 to, .int .i64 hi, .int .i64 lo] 26)) none := World.grownBy_alloc _ _ _
  have HB0 := hide (heap_alloc_new w (.cells #[.slice vo vn vc, .int .i64 fr, .int .i64 to, .int .i64 hi, .int .i64 lo] 26))
  have HLV := hide (specLevel13 ao n cap zs _ (hr.grown G0) b1 HB1)
  have HR := hide hr
  have HLS := hide hls
  have HLL := hide hll
  have HG0 := hide G0
  have HP := hide hp
  have HPIN := hide hpin
  clear hr G0 hp hpin epl HL hls hll
  have HNIL : Hid (∀ W, w.grownBy W none → L = [] → ∃ so sc, Ending.returned (.slice (some ⟨W.heap.size, 0, none⟩) 0 0) = .returned (.slice so L.length sc) ∧ (W.alloc (.cells #[] 3)).ownsRow w.heap.size 3 1 (.slice so L.length sc) L.length (L.map (Value.int .i64)) ∧ w.grownBy (W.alloc (.cells #[] 3)) none) := fun W g e => by
    subst e
    exact ⟨_, _, rfl, World.ownsRow_lit W #[] 0 g.size (by unfold maxLen; omega) rfl, grown_alloc g _⟩
  go_enter Try.func30, Try.ntmps30
  go_wp2_with fail
  refine (unhide HLV).mono ?_
  rintro e w3 ⟨rfl, g3⟩
  have HG3 := hide (grown_trans (unhide HG0) g3)
  have HB3 := hide (at_rowS g3 (unhide HB0) (by simp))
  clear g3 HG0 HB0 HLV
  cases b1 with
  | false =>
    have HN := hide (unhide HNIL w3 (unhide HG3) (unhide HP).symm)
    go_wp2
    go_ret
    exact unhide HN
  | true =>
    obtain ⟨c0, c1, c2, c3, c4⟩ := scanCells (unhide HB3)
    go_wp2_with fail
    clear c0 c1 c2 c3 c4
    refine (unhide HBITS w3).mono ?_
    rintro e w4 ⟨rfl, g4⟩
    have HB4 := hide (at_rowS g4 (unhide HB3) (by simp))
    have HG4 := hide (grown_trans (unhide HG3) g4)
    clear g4 HBITS HG3 HB3
    obtain ⟨c0, c1, c2, c3, c4⟩ := scanCells (unhide HB4)
    cases b2 with
    | false =>
      have HN := hide (unhide HNIL w4 (unhide HG4) (unhide HP).symm)
      go_wp2
      go_ret
      exact unhide HN
    | true =>
      obtain ⟨p1, p2, p3, p4, p5⟩ := unhide HPIN rfl
      by_cases h0 : hi = 0
      · have n0 : (hi == 0) = true := by simp [h0]
        have nb : (hi != 0) = false := by simp [h0]
        obtain ⟨k0, rfl⟩ := Int.eq_ofNat_of_zero_le p1
        obtain ⟨k1, rfl⟩ := Int.eq_ofNat_of_zero_le (show 0 ≤ to by omega)
        obtain ⟨l0, rfl⟩ := Int.eq_ofNat_of_zero_le p4
        have e1 := i64_in ((k1 : Int) - (k0 : Int)) (by omega)
        have e2 := i64_in ((k1 : Int) - (k0 : Int) + 1) (by omega)
        by_cases hlen : (ln : Int) = (k1 : Int) - (k0 : Int) + 1
        · have hq : ((ln : Int) == (k1 : Int) - (k0 : Int) + 1) = true := by simp [hlen]
          have hqb : ((ln : Int) != (k1 : Int) - (k0 : Int) + 1) = false := by simp [hlen]
          have em : ((k1 : Int) - (k0 : Int) + 1).toNat = ln := by omega
          have HP2 : Hid (ofO (putT (stepF l0) k0 ls (zigged zs) ln) = L) := by
            have h := unhide HP
            rw [decide_eq_true h0, decide_eq_true hlen, em, Int.toNat_natCast, Int.toNat_natCast] at h
            exact h
          have HTZ := hide (specToZig ao n cap zs w4 ((unhide HR).grown (unhide HG4)) true (lev_nums (unhide HB1)) (zigged zs) rfl)
          have hkl : k1 + 1 = k0 + ln := by omega
          clear h0 em HP HPIN hlen
          go_wp2_with fail
          clear c0 c1 c2 c3 c4 n0 nb hq hqb e1 e2
          refine (unhide HTZ).mono ?_
          rintro e w5 ⟨zo, zc, rfl, o5, g5⟩
          rw [zigged_len] at o5 ⊢
          obtain ⟨zb, rfl, hzb, _⟩ := own_at o5 (by omega)
          have hs4 := (Array.getElem?_eq_some_iff.1 (unhide HB4)).1
          have HF5 : Hid (Pz w w5 #[.slice vo vn vc, .int .i64 k0, .int .i64 k1, .int .i64 hi, .int .i64 l0] zb zc (zigged zs)) :=
            ⟨at_rowS g5 (unhide HB4) (by simp), own_base o5 (by omega), zigged_len zs, fun j hj => by
              unfold zigged
              rw [made_at _ j hj]
              exact (lev_at (unhide HB1)).2 _ (zz_lt j hj), grown_trans (unhide HG4) g5⟩
          clear o5 g5 HTZ HG4 HB4 hzb hs4
          obtain ⟨c0, c1, c2, c3, c4⟩ := scanCells (unhide HF5).sc
          go_wp2
          clear c0 c1 c2 c3 c4
          go_loopw [8] (fun kv wr => ∃ (m : Nat) (Z : List Int), m ≤ ln ∧ kv = .int .i64 (k0 + m : Nat) ∧ Hid (Pz w wr #[.slice vo vn vc, .int .i64 k0, .int .i64 k1, .int .i64 hi, .int .i64 l0] zb zc Z) ∧ Hid (putT (stepF l0) k0 ls (zigged zs) m = some Z)) (fun kv _ => k1 + 1 - (intOf kv).toNat)
          case atStart => exact ⟨0, _, Nat.zero_le _, rfl, HF5, rfl⟩
          case round =>
            clear HF5
            obtain ⟨m, Z, hm, rfl, hF, hZ⟩ := hrel
            obtain ⟨c0, c1, c2, c3, c4⟩ := scanCells (unhide hF).sc
            by_cases hlt : m < ln
            · obtain ⟨kk, HKK⟩ : ∃ kk, Hid (k0 + m = kk) := ⟨_, rfl⟩
              have hkk : kk ≤ k1 := by have := unhide HKK; omega
              have hd : decide ((kk : Int) ≤ (k1 : Int)) = true := decide_eq_true (by omega)
              have i0 : (0 : Int) ≤ (kk : Int) := by omega
              have i1 : (kk : Int) < 64 := by omega
              have es : (kk : Int) - (k0 : Int) = (m : Int) := by have := unhide HKK; omega
              have e1 := i64_in (m : Int) (by omega)
              have j0 : (0 : Int) ≤ (m : Int) := by omega
              have j1 : (m : Int) < (ln : Int) := by omega
              rw [unhide HKK]
              obtain ⟨lb, loff, rfl, hlc⟩ := ((unhide HLS).grown (unhide hF).grown).2 m hlt
              have NX : Hid (putT (stepF l0) k0 ls (zigged zs) (m + 1) = stepF l0 kk (ls.getD m 0) Z) := by unfold Hid; rw [putT_next (unhide hZ), unhide HKK]
              have FAIL : Hid (stepF l0 kk (ls.getD m 0) Z = none → L = []) := fun h => by
                rw [← unhide HP2, putT_none ((unhide NX).trans h) ln hlt]
                rfl
              generalize ls.getD m 0 = nv at hlc NX FAIL
              obtain ⟨t1, HT1⟩ : ∃ t, Hid (decide (-16383 ≤ nv ∧ nv ≤ 16383) = t) := ⟨_, rfl⟩
              have HIN1 : Hid (inLev nv = t1) := unhide HT1
              go_wp2_with fail
              refine (between nv (-16383) 16383 t1 HT1 wr).mono ?_
              rintro e w6 ⟨rfl, rfl⟩
              cases t1 with
              | false =>
                have HN := hide (unhide HNIL w6 (unhide hF).grown (unhide FAIL (by unfold stepF; rw [unhide HIN1]; rfl)))
                go_wp2
                go_ret
                exact unhide HN
              | true =>
                have hb := of_decide_eq_true (unhide HT1)
                have hp13 := pow13 l0 (by omega)
                have hm13 := mul13 hb hp13
                have l1 : ¬ ((l0 : Int) < 0) := by omega
                have l2 : (l0 : Int).toNat = l0 := rfl
                obtain ⟨pw, HPW⟩ : ∃ pw, (2 : Int) ^ l0 = pw := ⟨_, rfl⟩
                rw [HPW] at hp13 hm13
                have e3 := i64_in pw (by omega)
                have e4 := i64_in (nv * pw) (by omega)
                obtain ⟨t2, HT2⟩ : ∃ t, Hid (decide (-16383 ≤ nv * pw ∧ nv * pw ≤ 16383) = t) := ⟨_, rfl⟩
                have HIN2 : Hid (inLev (nv * 2 ^ l0) = t2) := by unfold Hid; rw [HPW]; exact unhide HT2
                have HPW' := hide HPW
                go_wp2_with fail
                refine (between (nv * pw) (-16383) 16383 t2 HT2 w6).mono ?_
                rintro e w7 ⟨rfl, rfl⟩
                cases t2 with
                | false =>
                  have HN := hide (unhide HNIL w7 (unhide hF).grown (unhide FAIL (by unfold stepF; rw [unhide HIN1, unhide HIN2]; rfl)))
                  go_wp2
                  go_ret
                  exact unhide HN
                | true =>
                  have hb2 := of_decide_eq_true (unhide HT2)
                  have HF7 := hide ((unhide hF).put kk (nv * pw) hb2)
                  have HZ7 : Hid (putT (stepF l0) k0 ls (zigged zs) (m + 1) = some (Z.set kk (nv * pw))) := by
                    unfold Hid
                    rw [unhide NX]
                    unfold stepF
                    rw [unhide HIN1, unhide HIN2, unhide HPW']
                    rfl
                  have cz := (unhide hF).at kk (by omega)
                  have fz := (unhide hF).zs.frozenAt kk
                  clear hb hb2 NX FAIL
                  go_wp2
                  go_roundw
                  case rel => exact ⟨m + 1, _, by omega, by rw [show k0 + (m + 1) = kk + 1 by have := unhide HKK; omega]; go_num, HF7, HZ7⟩
                  case measure => have := unhide HKK; simp [intOf]; omega
            · obtain rfl : m = ln := by omega
              have hd : decide (((k0 + m : Nat) : Int) ≤ (k1 : Int)) = false := decide_eq_false (by omega)
              have eL : unzigged Z = L := by rw [← unhide HP2, unhide hZ]; rfl
              have HFZ := hide (specFromZig (some ⟨zb, 0, none⟩) 64 zc Z wr (unhide hF).rd true (unhide hF).nums L (by unfold Hid; rw [if_pos rfl]; exact eL))
              go_wp2_with fail
              refine (unhide HFZ).mono ?_
              rintro e w6 ⟨so, sc, rfl, o6, g6⟩
              have hs6 := (unhide hF).grown.size
              have HRES : Hid (∃ so' sc', Ending.returned (.slice so L.length sc) = .returned (.slice so' L.length sc') ∧ w6.ownsRow w.heap.size 3 1 (.slice so' L.length sc') L.length (L.map (Value.int .i64)) ∧ w.grownBy w6 none) := ⟨so, sc, rfl, own_base o6 hs6, grown_trans (unhide hF).grown g6⟩
              clear o6 g6 HFZ eL
              go_wp2
              go_ret
              exact unhide HRES
        · have hq : ((ln : Int) == (k1 : Int) - (k0 : Int) + 1) = false := by simp [hlen]
          have hqb : ((ln : Int) != (k1 : Int) - (k0 : Int) + 1) = true := by simp [hlen]
          have e : L = [] := by
            have h := unhide HP
            rw [decide_eq_false hlen, Bool.and_false] at h
            exact h.symm
          have HN := hide (unhide HNIL w4 (unhide HG4) e)
          go_wp2
          go_ret
          exact unhide HN
      · have n0 : (hi == 0) = false := by simp [h0]
        have nb : (hi != 0) = true := by simp [h0]
        have e : L = [] := by
          have h := unhide HP
          rw [decide_eq_false h0] at h
          exact h.symm
        have HN := hide (unhide HNIL w4 (unhide HG4) e)
        go_wp2
        go_ret
        exact unhide HN

end Go.Proofs.Ytfgglainjaplgaa

namespace Go.Proofs.Ytfgglainjaplgaa
open Go.RowKit

set_option maxRecDepth 20000 in
set_option maxHeartbeats 3200000 in
theorem specPutRefine (ao : Option Addr) (n cap : Nat) (zs : List Int) (w : World) (hr : Rd .i64 w ao n zs) (vo : Option Addr) (vn vc : Nat) (a : Scn) (lo' : Option Addr) (ln lc : Nat) (ls : List Int) (hls : Rd .i64 w lo' ln ls) (hln : ln ≤ 4194304) (L : List Int) (HL : Hid (putRefineG zs a ls = L)) :
    Calls Try.prog 31 #[.slice ao n cap, .agg #[.slice vo vn vc, .int .i64 a.fr, .int .i64 a.to, .int .i64 a.hi, .int .i64 a.lo], .slice lo' ln lc] w fun e w' => ∃ so sc, e = .returned (.slice so L.length sc) ∧ w'.ownsRow w.heap.size 3 1 (.slice so L.length sc) L.length (L.map (Value.int .i64)) ∧ w.grownBy w' none := by
  obtain ⟨b1, HB1⟩ : ∃ b, Hid (levB (-16383) 16383 zs = b) := ⟨_, rfl⟩
  obtain ⟨b2, HB2⟩ : ∃ b, Hid (passB a = b) := ⟨_, rfl⟩
  have HBITS := hide (fun W => specBits W vo vn vc a b2 HB2)
  have hp := unhide HL
  unfold putRefineG at hp
  rw [unhide HB1, unhide HB2] at hp
  have hpin : b2 = true → 0 ≤ a.fr ∧ a.fr ≤ a.to ∧ a.to ≤ 63 ∧ 0 ≤ a.lo ∧ a.lo ≤ 13 := fun e => by
    have h := unhide HB2
    rw [e] at h
    unfold passB at h
    simp only [Bool.and_eq_true, decide_eq_true_eq] at h
    omega
  have epl : placesOf a = (a.to - a.fr + 1).toNat := rfl
  rw [epl, hls.1] at hp
  have hll := hls.1
  obtain ⟨cs, fr, to, hi, lo⟩ := a
  dsimp only at HBITS hp hpin ⊢
  have G0 : w.grownBy (w.alloc (.cells #[.slice vo vn vc, .int .i64 fr, .int .i64 to, .int .i64 hi, .int .i64 lo] 26)) none := World.grownBy_alloc _ _ _
  have HB0 := hide (heap_alloc_new w (.cells #[.slice vo vn vc, .int .i64 fr, .int .i64 to, .int .i64 hi, .int .i64 lo] 26))
  have HLV := hide (specLevel13 ao n cap zs _ (hr.grown G0) b1 HB1)
  have HR := hide hr
  have HLS := hide hls
  have HLL := hide hll
  have HG0 := hide G0
  have HP := hide hp
  have HPIN := hide hpin
  clear hr G0 hp hpin epl HL hls hll
  have HNIL : Hid (∀ W, w.grownBy W none → L = [] → ∃ so sc, Ending.returned (.slice (some ⟨W.heap.size, 0, none⟩) 0 0) = .returned (.slice so L.length sc) ∧ (W.alloc (.cells #[] 3)).ownsRow w.heap.size 3 1 (.slice so L.length sc) L.length (L.map (Value.int .i64)) ∧ w.grownBy (W.alloc (.cells #[] 3)) none) := fun W g e => by
    subst e
    exact ⟨_, _, rfl, World.ownsRow_lit W #[] 0 g.size (by unfold maxLen; omega) rfl, grown_alloc g _⟩
  go_enter Try.func31, Try.ntmps31
  go_wp2_with fail
  refine (unhide HLV).mono ?_
  rintro e w3 ⟨rfl, g3⟩
  have HG3 := hide (grown_trans (unhide HG0) g3)
  have HB3 := hide (at_rowS g3 (unhide HB0) (by simp))
  clear g3 HG0 HB0 HLV
  cases b1 with
  | false =>
    have HN := hide (unhide HNIL w3 (unhide HG3) (unhide HP).symm)
    go_wp2
    go_ret
    exact unhide HN
  | true =>
    obtain ⟨c0, c1, c2, c3, c4⟩ := scanCells (unhide HB3)
    go_wp2_with fail
    clear c0 c1 c2 c3 c4
    refine (unhide HBITS w3).mono ?_
    rintro e w4 ⟨rfl, g4⟩
    have HB4 := hide (at_rowS g4 (unhide HB3) (by simp))
    have HG4 := hide (grown_trans (unhide HG3) g4)
    clear g4 HBITS HG3 HB3
    obtain ⟨c0, c1, c2, c3, c4⟩ := scanCells (unhide HB4)
    cases b2 with
    | false =>
      have HN := hide (unhide HNIL w4 (unhide HG4) (unhide HP).symm)
      go_wp2
      go_ret
      exact unhide HN
    | true =>
      obtain ⟨p1, p2, p3, p4, p5⟩ := unhide HPIN rfl
      by_cases h0 : hi = 0
      · have n0 : (hi == 0) = true := by simp [h0]
        have nb : (hi != 0) = false := by simp [h0]
        have e : L = [] := by
          have h := unhide HP
          rw [decide_eq_true h0] at h
          exact h.symm
        have HN := hide (unhide HNIL w4 (unhide HG4) e)
        go_wp2
        go_ret
        exact unhide HN
      · have n0 : (hi == 0) = false := by simp [h0]
        have nb : (hi != 0) = true := by simp [h0]
        obtain ⟨k0, rfl⟩ := Int.eq_ofNat_of_zero_le p1
        obtain ⟨k1, rfl⟩ := Int.eq_ofNat_of_zero_le (show 0 ≤ to by omega)
        obtain ⟨l0, rfl⟩ := Int.eq_ofNat_of_zero_le p4
        have e1 := i64_in ((k1 : Int) - (k0 : Int)) (by omega)
        have e2 := i64_in ((k1 : Int) - (k0 : Int) + 1) (by omega)
        by_cases hlen : (ln : Int) = (k1 : Int) - (k0 : Int) + 1
        · have hq : ((ln : Int) == (k1 : Int) - (k0 : Int) + 1) = true := by simp [hlen]
          have hqb : ((ln : Int) != (k1 : Int) - (k0 : Int) + 1) = false := by simp [hlen]
          have em : ((k1 : Int) - (k0 : Int) + 1).toNat = ln := by omega
          have HP2 : Hid (ofO (putT (stepR l0) k0 ls (zigged zs) ln) = L) := by
            have h := unhide HP
            rw [decide_eq_false h0, decide_eq_true hlen, em, Int.toNat_natCast, Int.toNat_natCast] at h
            exact h
          have HTZ := hide (specToZig ao n cap zs w4 ((unhide HR).grown (unhide HG4)) true (lev_nums (unhide HB1)) (zigged zs) rfl)
          have hkl : k1 + 1 = k0 + ln := by omega
          clear h0 em HP HPIN hlen
          go_wp2_with fail
          clear c0 c1 c2 c3 c4 n0 nb hq hqb e1 e2
          refine (unhide HTZ).mono ?_
          rintro e w5 ⟨zo, zc, rfl, o5, g5⟩
          rw [zigged_len] at o5 ⊢
          obtain ⟨zb, rfl, hzb, _⟩ := own_at o5 (by omega)
          have hs4 := (Array.getElem?_eq_some_iff.1 (unhide HB4)).1
          have HF5 : Hid (Pz w w5 #[.slice vo vn vc, .int .i64 k0, .int .i64 k1, .int .i64 hi, .int .i64 l0] zb zc (zigged zs)) :=
            ⟨at_rowS g5 (unhide HB4) (by simp), own_base o5 (by omega), zigged_len zs, fun j hj => by
              unfold zigged
              rw [made_at _ j hj]
              exact (lev_at (unhide HB1)).2 _ (zz_lt j hj), grown_trans (unhide HG4) g5⟩
          clear o5 g5 HTZ HG4 HB4 hzb hs4
          obtain ⟨c0, c1, c2, c3, c4⟩ := scanCells (unhide HF5).sc
          go_wp2
          clear c0 c1 c2 c3 c4
          go_loopw [8] (fun kv wr => ∃ (m : Nat) (Z : List Int), m ≤ ln ∧ kv = .int .i64 (k0 + m : Nat) ∧ Hid (Pz w wr #[.slice vo vn vc, .int .i64 k0, .int .i64 k1, .int .i64 hi, .int .i64 l0] zb zc Z) ∧ Hid (putT (stepR l0) k0 ls (zigged zs) m = some Z)) (fun kv _ => k1 + 1 - (intOf kv).toNat)
          case atStart => exact ⟨0, _, Nat.zero_le _, rfl, HF5, rfl⟩
          case round =>
            clear HF5
            obtain ⟨m, Z, hm, rfl, hF, hZ⟩ := hrel
            obtain ⟨c0, c1, c2, c3, c4⟩ := scanCells (unhide hF).sc
            by_cases hlt : m < ln
            · obtain ⟨kk, HKK⟩ : ∃ kk, Hid (k0 + m = kk) := ⟨_, rfl⟩
              have hkk : kk ≤ k1 := by have := unhide HKK; omega
              have hd : decide ((kk : Int) ≤ (k1 : Int)) = true := decide_eq_true (by omega)
              have i0 : (0 : Int) ≤ (kk : Int) := by omega
              have i1 : (kk : Int) < 64 := by omega
              have es : (kk : Int) - (k0 : Int) = (m : Int) := by have := unhide HKK; omega
              have e1 := i64_in (m : Int) (by omega)
              have j0 : (0 : Int) ≤ (m : Int) := by omega
              have j1 : (m : Int) < (ln : Int) := by omega
              rw [unhide HKK]
              obtain ⟨lb, loff, rfl, hlc⟩ := ((unhide HLS).grown (unhide hF).grown).2 m hlt
              have NX : Hid (putT (stepR l0) k0 ls (zigged zs) (m + 1) = stepR l0 kk (ls.getD m 0) Z) := by unfold Hid; rw [putT_next (unhide hZ), unhide HKK]
              have FAIL : Hid (stepR l0 kk (ls.getD m 0) Z = none → L = []) := fun h => by
                rw [← unhide HP2, putT_none ((unhide NX).trans h) ln hlt]
                rfl
              generalize ls.getD m 0 = nv at hlc NX FAIL
              obtain ⟨t1, HT1⟩ : ∃ t, Hid (decide (-1 ≤ nv ∧ nv ≤ 1) = t) := ⟨_, rfl⟩
              have cz := (unhide hF).at kk (by omega)
              have hzl := (unhide hF).lev kk (by omega)
              have hlo := (unhide hF).lo
              obtain ⟨zv, HZV⟩ : ∃ zv, Hid (Z.getD kk 0 = zv) := ⟨_, rfl⟩
              rw [unhide HZV] at cz hzl
              go_wp2_with fail
              refine (between nv (-1) 1 t1 HT1 wr).mono ?_
              rintro e w6 ⟨rfl, rfl⟩
              cases t1 with
              | false =>
                have HN := hide (unhide HNIL w6 (unhide hF).grown (unhide FAIL (by unfold stepR; rw [unhide HT1]; rfl)))
                go_wp2
                go_ret
                exact unhide HN
              | true =>
                have hb := of_decide_eq_true (unhide HT1)
                have hp13 := pow13 l0 (by omega)
                have l1 : ¬ ((l0 : Int) < 0) := by omega
                have l2 : (l0 : Int).toNat = l0 := rfl
                obtain ⟨pw, HPW⟩ : ∃ pw, (2 : Int) ^ l0 = pw := ⟨_, rfl⟩
                rw [HPW] at hp13
                have e3 := i64_in pw (by omega)
                have e5 := i64_in (-nv) (by omega)
                have GO : Hid (∀ nw : Int, (if zv < 0 then -nv else nv) = nw → (decide (nv < 0) && decide (zv ≠ 0)) = false → stepR l0 kk nv Z = if inLev (zv + nw * pw) = true then some (Z.set kk (zv + nw * pw)) else none) := fun nw e1 e2 => by
                  unfold stepR finer
                  rw [unhide HT1, unhide HZV, e1, e2, HPW]
                  rfl
                have HPW' := hide HPW
                clear HPW
                by_cases hbad : nv < 0 ∧ zv ≠ 0
                · have hn1 : decide (nv < 0) = true := decide_eq_true hbad.1
                  have hz1 : (zv == 0) = false := by simp [hbad.2]
                  have hz2 : (zv != 0) = true := by simp [hbad.2]
                  have HN := hide (unhide HNIL w6 (unhide hF).grown (unhide FAIL (by unfold stepR; rw [unhide HZV, decide_eq_true hbad.1, decide_eq_true hbad.2, Bool.and_self, Bool.not_true, Bool.and_false, Bool.false_and]; rfl)))
                  go_wp2
                  go_ret
                  exact unhide HN
                · have hgood : (decide (nv < 0) && decide (zv ≠ 0)) = false := by
                    rw [Bool.eq_false_iff]
                    intro h
                    rw [Bool.and_eq_true, decide_eq_true_eq, decide_eq_true_eq] at h
                    exact hbad h
                  have GO2 : Hid (∀ nw : Int, (if zv < 0 then -nv else nv) = nw → stepR l0 kk nv Z = if inLev (zv + nw * pw) = true then some (Z.set kk (zv + nw * pw)) else none) := fun nw e1 => unhide GO nw e1 hgood
                  clear GO hgood
                  have hsp : (nv < 0 ∧ zv = 0) ∨ (¬ nv < 0 ∧ zv < 0) ∨ (¬ nv < 0 ∧ ¬ zv < 0) := by omega
                  clear hbad
                  rcases hsp with ⟨s1, s2⟩ | ⟨s1, s2⟩ | ⟨s1, s2⟩
                  · have hn1 : decide (nv < 0) = true := decide_eq_true s1
                    have hz1 : (zv == 0) = true := by simp [s2]
                    have hz2 : (zv != 0) = false := by simp [s2]
                    have hz3 : decide (zv < 0) = false := decide_eq_false (by omega)
                    obtain ⟨nw, HNW⟩ : ∃ nw, Hid (nv = nw) := ⟨_, rfl⟩
                    have GO3 := hide (unhide GO2 nw (by rw [if_neg (by omega)]; exact unhide HNW))
                    clear s1 s2 GO2
                    have hnw : -1 ≤ nw ∧ nw ≤ 1 := by rw [← unhide HNW]; omega
                    have hm13 := mul13 (n := nw) (p := pw) (by omega) hp13
                    have HPW2 := unhide HPW'
                    have e4 := i64_in (nw * pw) (by omega)
                    have e6 := i64_in (zv + nw * pw) (by omega)
                    obtain ⟨t2, HT2⟩ : ∃ t, Hid (decide (-16383 ≤ zv + nw * pw ∧ zv + nw * pw ≤ 16383) = t) := ⟨_, rfl⟩
                    have HIN2 : Hid (inLev (zv + nw * pw) = t2) := unhide HT2
                    rw [unhide HIN2] at GO3
                    go_wp2
                    rw [unhide HNW]
                    refine wp_region_noPanic ?_
                    have HFD := hide ((unhide hF).new (grown_drew (World.grownBy.refl w6 none)))
                    have fz := (unhide HFD).zs.frozenAt kk
                    refine wp_region_tailL 20 (fun W => W.cell? ⟨zb, kk, none⟩ = some (.int .i64 zv) ∧ W.cell? ⟨w.heap.size, 4, none⟩ = some (.int .i64 l0)) [true, true, true, true, true, true, true, true, true, true, true, true, true, false] (by kernel_rfl) (fun _ _ _ _ _ h => h) rfl (by decide) (by kernel_rfl) ⟨cz, c4⟩ ?_
                    iterate 13
                      refine heldF_take (v := ?_) (Or.inl ⟨by rfl, ?_⟩) ?_
                      rotate_left 1
                      · intro w' hSw
                        try dsimp only at hSw
                        obtain ⟨y1, y2⟩ := hSw
                        go_simp
                        try with_reducible rfl
                      simp only [Act.put, List.setIfInBounds_toArray, List.set_cons_zero, List.set_cons_succ]
                    refine heldF_skip (heldF_nil ?_)
                    iterate 13 refine tailL_skip ?_
                    refine tailL_step (fun K hK => ?_)
                    have czd : w6.drew.cell? ⟨zb, kk, none⟩ = some (.int .i64 zv) := cz
                    go_simp
                    refine hK.out _ _ (.inl rfl) ?_
                    clear hK K
                    refine tailL_nil (NoPanic.normal ?_)
                    have hG8 := grown_drew (grown_new (unhide hF).grown (grown_set w6 zb kk (.int .i64 (zv + nw * pw))) (fun q e => by injection e with e; omega))
                    have cz8 : (w6.setCell ⟨zb, kk, none⟩ (.int .i64 (zv + nw * pw))).drew.cell? ⟨zb, kk, none⟩ = some (.int .i64 (zv + nw * pw)) := by
                      show (w6.setCell ⟨zb, kk, none⟩ (.int .i64 (zv + nw * pw))).cell? ⟨zb, kk, none⟩ = _
                      have h := ((unhide hF).zs.stored kk (.int .i64 (zv + nw * pw))).1.cellAt kk (by omega)
                      rw [h]
                      have hl9 := (unhide HFD).len
                      simp [hl9, show kk < 64 by omega]
                    have HG8 := hide hG8
                    cases t2 with
                    | false =>
                      have hL0 : L = [] := unhide FAIL (by rw [unhide GO3]; rfl)
                      generalize (w6.setCell ⟨zb, kk, none⟩ (.int .i64 (zv + nw * pw))).drew = w8 at *
                      clear hG8 fz czd
                      go_wp2_with fail
                      refine (between (zv + nw * pw) (-16383) 16383 false HT2 w8).mono ?_
                      rintro e w9 ⟨rfl, rfl⟩
                      have HN := hide (unhide HNIL w9 (unhide HG8) hL0)
                      go_wp2
                      go_ret
                      exact unhide HN
                    | true =>
                      have hb2 := of_decide_eq_true (unhide HT2)
                      have HF8 := hide (((unhide hF).put kk (zv + nw * pw) hb2).new (grown_drew (World.grownBy.refl _ none)))
                      have HZ8 : Hid (putT (stepR l0) k0 ls (zigged zs) (m + 1) = some (Z.set kk (zv + nw * pw))) := by unfold Hid; rw [unhide NX, unhide GO3]; rfl
                      generalize (w6.setCell ⟨zb, kk, none⟩ (.int .i64 (zv + nw * pw))).drew = w8 at *
                      clear hG8 fz czd hb2
                      go_wp2_with fail
                      refine (between (zv + nw * pw) (-16383) 16383 true HT2 w8).mono ?_
                      rintro e w9 ⟨rfl, rfl⟩
                      clear cz cz8 c0 c1 c2 c3 c4
                      go_wp2
                      go_roundw
                      case rel => exact ⟨m + 1, _, by omega, by rw [show k0 + (m + 1) = kk + 1 by have := unhide HKK; omega]; go_num, HF8, HZ8⟩
                      case measure => have := unhide HKK; simp [intOf]; omega
                  · have hn1 : decide (nv < 0) = false := decide_eq_false s1
                    have hz3 : decide (zv < 0) = true := decide_eq_true s2
                    obtain ⟨nw, HNW⟩ : ∃ nw, Hid (-nv = nw) := ⟨_, rfl⟩
                    have GO3 := hide (unhide GO2 nw (by rw [if_pos s2]; exact unhide HNW))
                    clear s1 s2 GO2
                    have hnw : -1 ≤ nw ∧ nw ≤ 1 := by rw [← unhide HNW]; omega
                    have hm13 := mul13 (n := nw) (p := pw) (by omega) hp13
                    have HPW2 := unhide HPW'
                    have e4 := i64_in (nw * pw) (by omega)
                    have e6 := i64_in (zv + nw * pw) (by omega)
                    obtain ⟨t2, HT2⟩ : ∃ t, Hid (decide (-16383 ≤ zv + nw * pw ∧ zv + nw * pw ≤ 16383) = t) := ⟨_, rfl⟩
                    have HIN2 : Hid (inLev (zv + nw * pw) = t2) := unhide HT2
                    rw [unhide HIN2] at GO3
                    go_wp2
                    rw [unhide HNW]
                    refine wp_region_noPanic ?_
                    have HFD := hide ((unhide hF).new (grown_drew (World.grownBy.refl w6 none)))
                    have fz := (unhide HFD).zs.frozenAt kk
                    refine wp_region_tailL 20 (fun W => W.cell? ⟨zb, kk, none⟩ = some (.int .i64 zv) ∧ W.cell? ⟨w.heap.size, 4, none⟩ = some (.int .i64 l0)) [true, true, true, true, true, true, true, true, true, true, true, true, true, false] (by kernel_rfl) (fun _ _ _ _ _ h => h) rfl (by decide) (by kernel_rfl) ⟨cz, c4⟩ ?_
                    iterate 13
                      refine heldF_take (v := ?_) (Or.inl ⟨by rfl, ?_⟩) ?_
                      rotate_left 1
                      · intro w' hSw
                        try dsimp only at hSw
                        obtain ⟨y1, y2⟩ := hSw
                        go_simp
                        try with_reducible rfl
                      simp only [Act.put, List.setIfInBounds_toArray, List.set_cons_zero, List.set_cons_succ]
                    refine heldF_skip (heldF_nil ?_)
                    iterate 13 refine tailL_skip ?_
                    refine tailL_step (fun K hK => ?_)
                    have czd : w6.drew.cell? ⟨zb, kk, none⟩ = some (.int .i64 zv) := cz
                    go_simp
                    refine hK.out _ _ (.inl rfl) ?_
                    clear hK K
                    refine tailL_nil (NoPanic.normal ?_)
                    have hG8 := grown_drew (grown_new (unhide hF).grown (grown_set w6 zb kk (.int .i64 (zv + nw * pw))) (fun q e => by injection e with e; omega))
                    have cz8 : (w6.setCell ⟨zb, kk, none⟩ (.int .i64 (zv + nw * pw))).drew.cell? ⟨zb, kk, none⟩ = some (.int .i64 (zv + nw * pw)) := by
                      show (w6.setCell ⟨zb, kk, none⟩ (.int .i64 (zv + nw * pw))).cell? ⟨zb, kk, none⟩ = _
                      have h := ((unhide hF).zs.stored kk (.int .i64 (zv + nw * pw))).1.cellAt kk (by omega)
                      rw [h]
                      have hl9 := (unhide HFD).len
                      simp [hl9, show kk < 64 by omega]
                    have HG8 := hide hG8
                    cases t2 with
                    | false =>
                      have hL0 : L = [] := unhide FAIL (by rw [unhide GO3]; rfl)
                      generalize (w6.setCell ⟨zb, kk, none⟩ (.int .i64 (zv + nw * pw))).drew = w8 at *
                      clear hG8 fz czd
                      go_wp2_with fail
                      refine (between (zv + nw * pw) (-16383) 16383 false HT2 w8).mono ?_
                      rintro e w9 ⟨rfl, rfl⟩
                      have HN := hide (unhide HNIL w9 (unhide HG8) hL0)
                      go_wp2
                      go_ret
                      exact unhide HN
                    | true =>
                      have hb2 := of_decide_eq_true (unhide HT2)
                      have HF8 := hide (((unhide hF).put kk (zv + nw * pw) hb2).new (grown_drew (World.grownBy.refl _ none)))
                      have HZ8 : Hid (putT (stepR l0) k0 ls (zigged zs) (m + 1) = some (Z.set kk (zv + nw * pw))) := by unfold Hid; rw [unhide NX, unhide GO3]; rfl
                      generalize (w6.setCell ⟨zb, kk, none⟩ (.int .i64 (zv + nw * pw))).drew = w8 at *
                      clear hG8 fz czd hb2
                      go_wp2_with fail
                      refine (between (zv + nw * pw) (-16383) 16383 true HT2 w8).mono ?_
                      rintro e w9 ⟨rfl, rfl⟩
                      clear cz cz8 c0 c1 c2 c3 c4
                      go_wp2
                      go_roundw
                      case rel => exact ⟨m + 1, _, by omega, by rw [show k0 + (m + 1) = kk + 1 by have := unhide HKK; omega]; go_num, HF8, HZ8⟩
                      case measure => have := unhide HKK; simp [intOf]; omega
                  · have hn1 : decide (nv < 0) = false := decide_eq_false s1
                    have hz3 : decide (zv < 0) = false := decide_eq_false s2
                    obtain ⟨nw, HNW⟩ : ∃ nw, Hid (nv = nw) := ⟨_, rfl⟩
                    have GO3 := hide (unhide GO2 nw (by rw [if_neg s2]; exact unhide HNW))
                    clear s1 s2 GO2
                    have hnw : -1 ≤ nw ∧ nw ≤ 1 := by rw [← unhide HNW]; omega
                    have hm13 := mul13 (n := nw) (p := pw) (by omega) hp13
                    have HPW2 := unhide HPW'
                    have e4 := i64_in (nw * pw) (by omega)
                    have e6 := i64_in (zv + nw * pw) (by omega)
                    obtain ⟨t2, HT2⟩ : ∃ t, Hid (decide (-16383 ≤ zv + nw * pw ∧ zv + nw * pw ≤ 16383) = t) := ⟨_, rfl⟩
                    have HIN2 : Hid (inLev (zv + nw * pw) = t2) := unhide HT2
                    rw [unhide HIN2] at GO3
                    go_wp2
                    rw [unhide HNW]
                    refine wp_region_noPanic ?_
                    have HFD := hide ((unhide hF).new (grown_drew (World.grownBy.refl w6 none)))
                    have fz := (unhide HFD).zs.frozenAt kk
                    refine wp_region_tailL 20 (fun W => W.cell? ⟨zb, kk, none⟩ = some (.int .i64 zv) ∧ W.cell? ⟨w.heap.size, 4, none⟩ = some (.int .i64 l0)) [true, true, true, true, true, true, true, true, true, true, true, true, true, false] (by kernel_rfl) (fun _ _ _ _ _ h => h) rfl (by decide) (by kernel_rfl) ⟨cz, c4⟩ ?_
                    iterate 13
                      refine heldF_take (v := ?_) (Or.inl ⟨by rfl, ?_⟩) ?_
                      rotate_left 1
                      · intro w' hSw
                        try dsimp only at hSw
                        obtain ⟨y1, y2⟩ := hSw
                        go_simp
                        try with_reducible rfl
                      simp only [Act.put, List.setIfInBounds_toArray, List.set_cons_zero, List.set_cons_succ]
                    refine heldF_skip (heldF_nil ?_)
                    iterate 13 refine tailL_skip ?_
                    refine tailL_step (fun K hK => ?_)
                    have czd : w6.drew.cell? ⟨zb, kk, none⟩ = some (.int .i64 zv) := cz
                    go_simp
                    refine hK.out _ _ (.inl rfl) ?_
                    clear hK K
                    refine tailL_nil (NoPanic.normal ?_)
                    have hG8 := grown_drew (grown_new (unhide hF).grown (grown_set w6 zb kk (.int .i64 (zv + nw * pw))) (fun q e => by injection e with e; omega))
                    have cz8 : (w6.setCell ⟨zb, kk, none⟩ (.int .i64 (zv + nw * pw))).drew.cell? ⟨zb, kk, none⟩ = some (.int .i64 (zv + nw * pw)) := by
                      show (w6.setCell ⟨zb, kk, none⟩ (.int .i64 (zv + nw * pw))).cell? ⟨zb, kk, none⟩ = _
                      have h := ((unhide hF).zs.stored kk (.int .i64 (zv + nw * pw))).1.cellAt kk (by omega)
                      rw [h]
                      have hl9 := (unhide HFD).len
                      simp [hl9, show kk < 64 by omega]
                    have HG8 := hide hG8
                    cases t2 with
                    | false =>
                      have hL0 : L = [] := unhide FAIL (by rw [unhide GO3]; rfl)
                      generalize (w6.setCell ⟨zb, kk, none⟩ (.int .i64 (zv + nw * pw))).drew = w8 at *
                      clear hG8 fz czd
                      go_wp2_with fail
                      refine (between (zv + nw * pw) (-16383) 16383 false HT2 w8).mono ?_
                      rintro e w9 ⟨rfl, rfl⟩
                      have HN := hide (unhide HNIL w9 (unhide HG8) hL0)
                      go_wp2
                      go_ret
                      exact unhide HN
                    | true =>
                      have hb2 := of_decide_eq_true (unhide HT2)
                      have HF8 := hide (((unhide hF).put kk (zv + nw * pw) hb2).new (grown_drew (World.grownBy.refl _ none)))
                      have HZ8 : Hid (putT (stepR l0) k0 ls (zigged zs) (m + 1) = some (Z.set kk (zv + nw * pw))) := by unfold Hid; rw [unhide NX, unhide GO3]; rfl
                      generalize (w6.setCell ⟨zb, kk, none⟩ (.int .i64 (zv + nw * pw))).drew = w8 at *
                      clear hG8 fz czd hb2
                      go_wp2_with fail
                      refine (between (zv + nw * pw) (-16383) 16383 true HT2 w8).mono ?_
                      rintro e w9 ⟨rfl, rfl⟩
                      clear cz cz8 c0 c1 c2 c3 c4
                      go_wp2
                      go_roundw
                      case rel => exact ⟨m + 1, _, by omega, by rw [show k0 + (m + 1) = kk + 1 by have := unhide HKK; omega]; go_num, HF8, HZ8⟩
                      case measure => have := unhide HKK; simp [intOf]; omega
            · obtain rfl : m = ln := by omega
              have hd : decide (((k0 + m : Nat) : Int) ≤ (k1 : Int)) = false := decide_eq_false (by omega)
              have eL : unzigged Z = L := by rw [← unhide HP2, unhide hZ]; rfl
              have HFZ := hide (specFromZig (some ⟨zb, 0, none⟩) 64 zc Z wr (unhide hF).rd true (unhide hF).nums L (by unfold Hid; rw [if_pos rfl]; exact eL))
              go_wp2_with fail
              refine (unhide HFZ).mono ?_
              rintro e w6 ⟨so, sc, rfl, o6, g6⟩
              have hs6 := (unhide hF).grown.size
              have HRES : Hid (∃ so' sc', Ending.returned (.slice so L.length sc) = .returned (.slice so' L.length sc') ∧ w6.ownsRow w.heap.size 3 1 (.slice so' L.length sc') L.length (L.map (Value.int .i64)) ∧ w.grownBy w6 none) := ⟨so, sc, rfl, own_base o6 hs6, grown_trans (unhide hF).grown g6⟩
              clear o6 g6 HFZ eL
              go_wp2
              go_ret
              exact unhide HRES
        · have hq : ((ln : Int) == (k1 : Int) - (k0 : Int) + 1) = false := by simp [hlen]
          have hqb : ((ln : Int) != (k1 : Int) - (k0 : Int) + 1) = true := by simp [hlen]
          have e : L = [] := by
            have h := unhide HP
            rw [decide_eq_false hlen, Bool.and_false] at h
            exact h.symm
          have HN := hide (unhide HNIL w4 (unhide HG4) e)
          go_wp2
          go_ret
          exact unhide HN

end Go.Proofs.Ytfgglainjaplgaa
