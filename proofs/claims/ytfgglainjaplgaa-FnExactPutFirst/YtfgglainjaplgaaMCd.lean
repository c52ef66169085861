/-
  TabZigSpec2, TreeGA, AppIntS, CutSpec, FirstSpec, PutFSpec, LawPutFirst, LevelFix.
-/
import Derived.Test.YtfgglainjaplgaaRows
import Derived.Maps.AppendAt
import Derived.Deep.AppendLies
import Derived.Test.YtfgglainjaplgaaMCc

namespace Go.Proofs.Ytfgglainjaplgaa
open Go.RowKit

theorem unz_setL (zs : List Int) (k : Nat) (h : k < 64) : ((unzTo zs k).map (Value.int .i64)).set (zz k) (.int .i64 (zs.getD k 0)) = (unzTo zs (k + 1)).map (Value.int .i64) := by
  have e := congrArg Array.toList (unz_set zs k h)
  simpa [sq] using e

set_option maxRecDepth 20000 in
set_option maxHeartbeats 1600000 in
theorem specToZig (ao : Option Addr) (n cap : Nat) (zs : List Int) (w : World) (hr : Rd .i64 w ao n zs) (b : Bool) (hb : Hid (numsB (-32767) 32767 zs = b)) (L : List Int) (HL : Hid ((if b then zigged zs else []) = L)) :
    Calls Try.prog 20 #[.slice ao n cap] w fun e w' => ∃ so sc, e = .returned (.slice so L.length sc) ∧ w'.ownsRow w.heap.size 3 1 (.slice so L.length sc) L.length (L.map (Value.int .i64)) ∧ w.grownBy w' none := by
  have HO : Hid ((w.alloc (.cells #[] 3)).ownsRow w.heap.size 3 1 (.slice (some ⟨w.heap.size, 0, none⟩) 0 0) 0 []) := World.ownsRow_lit w #[] 0 (Nat.le_refl _) (by unfold maxLen; omega) rfl
  have HR := hide (hr.grown (World.grownBy_alloc w (.cells #[] 3) none))
  have HN := hide hr.1
  have HLW := hide hr.lt
  clear hr
  go_enter Try.func20, Try.ntmps20
  go_wp2_with fail
  refine (specBlockOk ao n cap zs _ (unhide HR) b hb).mono ?_
  rintro e w1 ⟨rfl, g1⟩
  have HG1 : Hid (w.grownBy w1 none) := grown_trans (World.grownBy_alloc _ _ _) g1
  have HO1 := hide (own_grown (unhide HO) g1)
  have HR1 := hide ((unhide HR).grown g1)
  clear g1 HO HR
  cases b with
  | false =>
    have e : L = [] := (unhide HL).symm
    subst e
    go_wp2
    go_ret
    exact ⟨_, _, rfl, unhide HO1, unhide HG1⟩
  | true =>
    have hz := (nums_at (unhide hb)).1
    have hn : n = 64 := by rw [← unhide HN]; exact hz
    subst hn
    have e : L = zigged zs := (unhide HL).symm
    subst e
    clear HL hb
    have HZ := hide hz
    clear hz
    go_wp2_with fail
    refine (specZigZag w1).mono ?_
    rintro e w2 ⟨zo, zc, rfl, oz, g2⟩
    have hs1 : w.heap.size < w1.heap.size := by have := (unhide HO1).lt w.heap.size rfl; omega
    have HZL : Hid (∀ b off, zo = some ⟨b, off, none⟩ → b ≠ w.heap.size) := by
      intro b off e
      subst e
      have h := (oz.lt b (by simp [Value.ownBlock])).1
      omega
    have HRL : Hid (∀ b off, ao = some ⟨b, off, none⟩ → b ≠ w.heap.size) := by
      intro b off e
      exact Nat.ne_of_lt (unhide HLW (by omega) b off e)
    have HZZ := hide (own_rd oz)
    have HO2 : Hid (OutI w w2 w.heap.size w2 (.slice (some ⟨w.heap.size, 0, none⟩) 0 0) 0 []) := ⟨own_grown (unhide HO1) g2, grown_trans (unhide HG1) g2, World.grownBy.refl _ _, fun g e => by simp [Value.ownBlock] at e; left; exact e.symm⟩
    have HR2 := hide ((unhide HR1).grown g2)
    clear oz g2 HO1 HR1 HG1 hs1
    go_wp2
    go_loopw [3, 5] (fun o i wr => ∃ k : Nat, k ≤ 64 ∧ i = .int .i64 k ∧ Hid (OutI w w2 w.heap.size wr o k ((zigged zs).take k))) (fun _ i _ => 64 - (intOf i).toNat)
    case atStart => exact ⟨0, Nat.zero_le _, rfl, HO2⟩
    case round =>
      obtain ⟨k, hk, rfl, hM⟩ := hrel
      obtain ⟨so2, sc2, rfl⟩ := own_form (unhide hM).own
      by_cases hlt : k < 64
      · obtain ⟨p, hp⟩ : ∃ p, zz k = p := ⟨_, rfl⟩
        have hp64 : p < 64 := by rw [← hp]; exact zz_lt k hlt
        obtain ⟨zb, zoff, rfl, hzc⟩ := (unhide HZZ).2 k (by rw [zz_len]; exact hlt)
        have ez : zzL.getD k 0 = (p : Int) := by rw [← hp]; exact zzF_eq k
        rw [ez] at hzc
        have hzc2 := (unhide hM).kept.cell hzc (fun e => unhide HZL zb zoff rfl (by simpa using e))
        obtain ⟨ab, aoff, rfl, hac⟩ := (unhide HR2).2 p hp64
        have hac2 := (unhide hM).kept.cell hac (fun e => unhide HRL ab aoff rfl (by simpa using e))
        have HV : Hid (zs.getD p 0 = (fun k => zs.getD (zz k) 0) k) := by unfold Hid; rw [← hp]
        have hzl : (zzL.length : Int) = 64 := by rw [zz_len]; rfl
        generalize zs.getD p 0 = z at hac2 HV
        clear hac hzc ez hp
        go_wp2_with (at_builtin; refine append_out rfl _ _ rfl w w2 w.heap.size _ k ((zigged zs).take k) rfl (unhide hM) _ rfl (by omega) ?_; intro v' w' ho)
        go_roundw
        case rel =>
          refine ⟨k + 1, by omega, by go_num, ?_⟩
          unfold zigged at ho
          rw [made_take _ k hlt _ (unhide HV)] at ho
          exact ho
        case measure => simp [intOf]; omega
      · obtain rfl : k = 64 := by omega
        have hM := unhide hM
        have e64 : (zigged zs).length = 64 := made_len _
        unfold zigged at hM
        rw [made_take_all] at hM
        have HM : Hid (OutI w w2 w.heap.size wr (.slice so2 64 sc2) 64 (zigged zs)) := hM
        have HE := hide e64
        clear hM e64
        go_wp2
        go_ret
        exact ⟨so2, sc2, by rw [unhide HE]; rfl, by rw [unhide HE]; exact (unhide HM).own, (unhide HM).base⟩

set_option maxRecDepth 20000 in
set_option maxHeartbeats 1600000 in
theorem specFromZig (ao : Option Addr) (n cap : Nat) (zs : List Int) (w : World) (hr : Rd .i64 w ao n zs) (b : Bool) (hb : Hid (numsB (-32767) 32767 zs = b)) (L : List Int) (HL : Hid ((if b then unzigged zs else []) = L)) :
    Calls Try.prog 47 #[.slice ao n cap] w fun e w' => ∃ so sc, e = .returned (.slice so L.length sc) ∧ w'.ownsRow w.heap.size 3 1 (.slice so L.length sc) L.length (L.map (Value.int .i64)) ∧ w.grownBy w' none := by
  obtain ⟨i0, hi, hz0, hz1, hz2⟩ := info_parts Try.info3
  have HR := hide hr
  have HN := hide hr.1
  have HLW := hide hr.lt
  clear hr
  go_enter Try.func47, Try.ntmps47
  go_wp2_with fail
  refine (specBlockOk ao n cap zs _ (unhide HR) b hb).mono ?_
  rintro e w1 ⟨rfl, g1⟩
  have HG1 := hide g1
  have HR1 := hide ((unhide HR).grown g1)
  clear g1 HR
  cases b with
  | false =>
    have e : L = [] := (unhide HL).symm
    subst e
    go_wp2
    go_ret
    exact ⟨_, _, rfl, own_base (World.ownsRow_lit w1 #[] 0 (Nat.le_refl _) (by unfold maxLen; omega) rfl) (unhide HG1).size, grown_alloc (unhide HG1) _⟩
  | true =>
    have hz := (nums_at (unhide hb)).1
    have hn : n = 64 := by rw [← unhide HN]; exact hz
    subst hn
    have e : L = unzigged zs := (unhide HL).symm
    subst e
    clear HL hb
    have HZ := hide hz
    clear hz
    go_wp2_with (at_make; refine wpList_make_full _ rfl _ _ 24 rfl w1.heap.size 3 i0 (.int .i64 0) 1 Try.underlying24 hi hz0 hz1 .i64 .i64 _ _ 64 rfl rfl rfl rfl (by rw [hz2]; omega) (by unfold maxLen; omega) (Nat.le_refl _) ?_)
    intro w2 hown hgrow
    have hown0 : w2.ownsRow w1.heap.size 3 1 (.slice (some ⟨w1.heap.size, 0, none⟩) 64 64) 64 ((unzTo zs 0).map (Value.int .i64)) := by
      rw [unz_zero]
      have e : (madeCells #[Value.int .i64 0] 64).toList = zs64.map (Value.int .i64) := by rw [toList_madeCells_one]; simp [zs64]
      rw [← e]; exact hown
    have HO2 := hide hown0
    have HG2 := hide (grown_trans (unhide HG1) hgrow)
    have HR2 := hide ((unhide HR1).grown hgrow)
    clear hown hown0 hgrow HR1 hi hz0 hz1 hz2
    go_wp2_with fail
    refine (specZigZag w2).mono ?_
    rintro e w3 ⟨zo, zc, rfl, oz, g3⟩
    have HZZ := hide (own_rd oz)
    have HZL : Hid (∀ b off, zo = some ⟨b, off, none⟩ → b ≠ w1.heap.size) := by
      intro b off e
      subst e
      have h := (oz.lt b (by simp [Value.ownBlock])).1
      have h2 := ((unhide HO2).lt w1.heap.size rfl).2
      omega
    have HRL : Hid (∀ b off, ao = some ⟨b, off, none⟩ → b ≠ w1.heap.size) := by
      intro b off e
      have h := unhide HLW (by omega) b off e
      have := (unhide HG1).size
      omega
    have HO3 := hide (own_grown (unhide HO2) g3)
    have HR3 := hide ((unhide HR2).grown g3)
    have HG3 := hide (grown_trans (unhide HG2) g3)
    clear oz g3 HO2 HR2 HG2
    go_wp2
    go_loopw [5] (fun i wr => ∃ k : Nat, k ≤ 64 ∧ i = .int .i64 k ∧ Hid (wr.ownsRow w1.heap.size 3 1 (.slice (some ⟨w1.heap.size, 0, none⟩) 64 64) 64 ((unzTo zs k).map (Value.int .i64))) ∧ Hid (w3.grownBy wr (some w1.heap.size))) (fun i _ => 64 - (intOf i).toNat)
    case atStart => exact ⟨0, Nat.zero_le _, rfl, HO3, World.grownBy.refl _ _⟩
    case round =>
      obtain ⟨k, hk, rfl, hM, hgk⟩ := hrel
      by_cases hlt : k < 64
      · obtain ⟨p, hp⟩ : ∃ p, zz k = p := ⟨_, rfl⟩
        have hp64 : p < 64 := by rw [← hp]; exact zz_lt k hlt
        obtain ⟨zb, zoff, rfl, hzc⟩ := (unhide HZZ).2 k (by rw [zz_len]; exact hlt)
        have ez : zzL.getD k 0 = (p : Int) := by rw [← hp]; exact zzF_eq k
        rw [ez] at hzc
        have hzc2 := (unhide hgk).cell hzc (fun e => unhide HZL zb zoff rfl (by simpa using e))
        obtain ⟨ab, aoff, rfl, hac⟩ := (unhide HR3).2 k hlt
        have hac2 := (unhide hgk).cell hac (fun e => unhide HRL ab aoff rfl (by simpa using e))
        have hzl : (zzL.length : Int) = 64 := by rw [zz_len]; rfl
        have hold : ∃ u, wr.cell? ⟨w1.heap.size, p, none⟩ = some u := by rw [(unhide hM).cellAt p (by omega)]; exact ⟨_, List.getElem?_eq_getElem (by rw [(unhide hM).1]; omega)⟩
        obtain ⟨u, hu⟩ := hold
        have hfr := (unhide hM).frozenAt p
        have HST : Hid ((wr.setCell ⟨w1.heap.size, p, none⟩ (.int .i64 (zs.getD k 0))).drew.ownsRow w1.heap.size 3 1 (.slice (some ⟨w1.heap.size, 0, none⟩) 64 64) 64 ((unzTo zs (k + 1)).map (Value.int .i64)) ∧ w3.grownBy (wr.setCell ⟨w1.heap.size, p, none⟩ (.int .i64 (zs.getD k 0))).drew (some w1.heap.size)) := by
          have st := (unhide hM).stored p (.int .i64 (zs.getD k 0))
          rw [← hp, unz_setL zs k hlt] at st
          rw [← hp]
          exact ⟨st.1, grown_drew (grown_trans (unhide hgk) st.2)⟩
        generalize zs.getD k 0 = z at hac2 HST
        clear ez hp hac hzc
        have hpI : (p : Int) < 64 := by omega
        have HZN : Hid (zb ≠ w1.heap.size) := unhide HZL zb zoff rfl
        have HAN : Hid (ab ≠ w1.heap.size) := unhide HRL ab aoff rfl
        go_wp2
        refine wp_region_noPanic ?_
        refine wp_region_tail (fun w' => w'.cell? ⟨zb, zoff + k, none⟩ = some (.int .i64 (p : Int)) ∧ w'.cell? ⟨ab, aoff + k, none⟩ = some (.int .i64 z)) [true, true, true, true, true, true, true, true, true, false, false] (by kernel_rfl) (fun _ _ _ _ _ h => h) rfl (by kernel_rfl) ⟨hzc2, hac2⟩ ?_
        iterate 9
          refine heldF_take (v := ?_) (Or.inl ⟨by rfl, ?_⟩) ?_
          rotate_left 1
          · intro w' hSw
            try dsimp only at hSw
            go_simp
            try with_reducible rfl
          simp only [Act.put, List.setIfInBounds_toArray, List.set_cons_zero, List.set_cons_succ]
        refine heldF_skip (heldF_skip (heldF_nil ?_))
        iterate 9 refine tailF_skip ?_
        refine tailF_step (fun K hK => ?_)
        go_simp
        refine hK.out _ _ ⟨hzc2, hac2⟩ ?_
        clear hK K
        refine tailF_step (fun K hK => ?_)
        go_simp
        refine hK.out _ _ ⟨(World.cell?_setCell_far _ _ _ _ (fun e => unhide HZN e.symm)).trans hzc2, (World.cell?_setCell_far _ _ _ _ (fun e => unhide HAN e.symm)).trans hac2⟩ ?_
        clear hK K
        refine tailF_nil (NoPanic.normal ?_)
        go_wp2
        go_roundw
        case rel => exact ⟨k + 1, by omega, by go_num, (unhide HST).1, (unhide HST).2⟩
        case measure => simp [intOf]; omega
      · obtain rfl : k = 64 := by omega
        have hM := unhide hM
        rw [unz_all] at hM
        have HM := hide hM
        have HE : Hid ((unzigged zs).length = 64) := made_len _
        clear hM
        go_wp2
        go_ret
        exact ⟨_, _, by rw [unhide HE]; rfl, by rw [unhide HE]; exact own_base (unhide HM) (unhide HG1).size, grown_new (unhide HG3) (unhide hgk) (fun g e => by simp at e; have := (unhide HG1).size; omega)⟩

end Go.Proofs.Ytfgglainjaplgaa

namespace Go.Proofs.Ytfgglainjaplgaa
open Go.RowKit

theorem rowsK_append (n m k : Nat) (hk : 0 < k) (U V : Nat → Nat → Value) : rowsK n k U ++ rowsK m k V = rowsK (n + m) k (fun i j => if i < n then U i j else V (i - n) j) := by
  apply List.ext_getElem?
  intro c
  by_cases h1 : c < n * k
  · rw [List.getElem?_append_left (by rw [rowsK_len]; exact h1)]
    have hi' : c / k < n := Nat.div_lt_of_lt_mul (by rw [Nat.mul_comm]; exact h1)
    have hm : c % k < k := Nat.mod_lt _ hk
    have hd : c = (c / k) * k + c % k := by have := Nat.div_add_mod c k; rw [Nat.mul_comm] at this; omega
    rw [hd, rowsK_get n k U _ _ hi' hm, rowsK_get (n + m) k _ _ _ (by omega) hm, if_pos hi']
  · obtain ⟨d, rfl⟩ : ∃ d, c = n * k + d := ⟨c - n * k, by omega⟩
    rw [List.getElem?_append_right (by rw [rowsK_len]; omega), rowsK_len, Nat.add_sub_cancel_left]
    have hd : d = (d / k) * k + d % k := by have := Nat.div_add_mod d k; rw [Nat.mul_comm] at this; omega
    have hm : d % k < k := Nat.mod_lt _ hk
    have hc : n * k + d = (n + d / k) * k + d % k := by rw [Nat.add_mul]; omega
    by_cases h2 : d < m * k
    · have hi' : d / k < m := Nat.div_lt_of_lt_mul (by rw [Nat.mul_comm]; exact h2)
      rw [hc, rowsK_get (n + m) k _ _ _ (Nat.add_lt_add_left hi' n) hm, if_neg (Nat.not_lt.2 (Nat.le_add_right _ _)), Nat.add_sub_cancel_left]
      have e9 := rowsK_get m k V (d / k) (d % k) hi' hm
      rw [← hd] at e9
      exact e9
    · rw [List.getElem?_eq_none (by rw [rowsK_len]; omega), List.getElem?_eq_none (by rw [rowsK_len, Nat.add_mul]; omega)]

theorem append_rowsG {α : Type} {P : World → (Nat → Value) → α → List Nat → Prop} (hP : OkG P) {e T : TypeId} {sz bytes : Nat} {z : Value} (hT : Try.prog.underlying T = some (.slice e)) (hI : (Try.prog.info? e).map (fun i => (i.zero, i.size, i.bytes)) = some (some z, sz, bytes)) (hzs : z.cells.size = sz) (hsz : 0 < sz) (hbt : bytes ≤ 1000)
    {w : World} {ops : Array Oper} {rest : List Oper} {o : Oper} {a : Act} {Q : Exit → Act → World → Prop} (hgd : o.guard = none) (s x : Operand)
    (ho : o.op = .call { callee := .builtin .append, args := #[s, x], argTypes := #[T, T] })
    (v : Value) (L : List α) (F : List Nat) (hs : a.eval s = v) (hown : OwG e sz P w v L F) (hF : F.Nodup)
    (cs : Array Value) (m : Nat) (V : Nat → Nat → Value) (hcs : cs.toList = rowsK m sz V) (M : List α) (hM : M.length = m) (Gs : List (List Nat)) (hGs : Gs.length = m) (hu : ∀ i (h : i < M.length), P w (V i) M[i] (Gs.getD i [])) (hG : Gs.flatten.Nodup) (hd : ∀ x ∈ Gs.flatten, x ∉ F) (h1c : ∀ u ∈ cs.toList, u.oneCell' = true)
    (H : Nat) (hH : w.heap.size = H) (hx : a.eval x = .slice (some ⟨H, 0, none⟩) m m) (hb : L.length + m ≤ 1000000) (R : List α) (hR : L ++ M = R)
    (h : ∀ v' w' F', OwG e sz P w' v' R F' → F'.Nodup → (∀ x ∈ F', x ∈ F ∨ x ∈ Gs.flatten ∨ w.heap.size ≤ x) → Wr (blk v) w w' → wpList Try.prog ops Q rest (a.put o.dst v') w') :
    wpList Try.prog ops Q (o :: rest) a (w.alloc (.cells cs e)) := by
  subst hR
  subst hH
  obtain ⟨i0, hi, hz0, hz1, hz2⟩ := info_parts hI
  obtain ⟨U, Fs, l2, o1, els, rfl⟩ := hown
  have hn := List.nodup_append.1 hF
  have hbb : (L.length + m) * bytes ≤ 1000000 * 1000 := Nat.mul_le_mul hb hbt
  refine wpList_append_own_at _ hgd s x T ho 0 e i0 _ sz bytes hT hi hz0 hz1 hz2 hzs hsz v L.length _ hs (o1.alloc _) ⟨w.heap.size, 0, none⟩ m m cs.toList hx (by rw [hcs, rowsK_len]) (World.news_of_block (cs := cs) (t := e) (fr := (0, 0)) (heap_alloc_new w _)) h1c (by unfold maxLen; omega) (by omega) (Nat.zero_le _) ?_
  intro v' w' h1 h2 _ h4
  have hga : w.grownBy w' v.ownBlock := ⟨h2.os, h2.tape, h2.output, by have h := h2.size; simp at h; omega, fun k hk hr => (h2.block k (by simp; omega) hr).trans (Below.heap_alloc _ _ _ hk)⟩
  have hw : Wr (blk v) w w' := Wr.ofRow hga (fun g e => mem_blk.2 e)
  have hvb : ∀ y, y ∈ blk v' → y ∈ blk v ∨ w.heap.size ≤ y := fun y hy => by
    rcases h4 with h4 | h4
    · exact .inl (mem_blk.2 (by rw [← h4]; exact mem_blk.1 hy))
    · have e1 := mem_blk.1 hy
      rw [h4] at e1
      have e2 : (w.alloc (.cells cs e)).heap.size = y := Option.some.inj e1
      exact .inr (by simp at e2; omega)
  have hfl : (Fs ++ Gs).flatten = Fs.flatten ++ Gs.flatten := by simp
  have hlt : ∀ y ∈ Fs.flatten, y < w.heap.size := fun y hy => by
    obtain ⟨l, hl, hyl⟩ := List.mem_flatten.1 hy
    obtain ⟨i, hi, rfl⟩ := List.mem_iff_getElem.1 hl
    exact hP.lt w _ _ _ (els i (by omega)) y (by simpa [hi] using hyl)
  have hltG : ∀ y ∈ Gs.flatten, y < w.heap.size := fun y hy => by
    obtain ⟨l, hl, hyl⟩ := List.mem_flatten.1 hy
    obtain ⟨i, hi, rfl⟩ := List.mem_iff_getElem.1 hl
    exact hP.lt w _ _ _ (hu i (by omega)) y (by simpa [hi] using hyl)
  refine h v' w' (blk v' ++ (Fs ++ Gs).flatten) ⟨fun i j => if i < L.length then U i j else V (i - L.length) j, Fs ++ Gs, by simp [l2, hGs, hM], ?_, fun i hi => ?_, rfl⟩ ?_ ?_ hw
  · rw [List.length_append, hM, ← rowsK_append L.length m sz hsz, ← hcs]; exact h1
  · by_cases hil : i < L.length
    · have e1 : (fun j => if i < L.length then U i j else V (i - L.length) j) = U i := by funext j; rw [if_pos hil]
      have e2 : (Fs ++ Gs).getD i [] = Fs.getD i [] := by simp [List.getElem?_append_left (show i < Fs.length by omega)]
      dsimp only
      rw [e1, e2, List.getElem_append_left hil]
      exact hP.wr (els i hil) hw (fun y hy hy2 => hn.2.2 y hy2 y (flat_in (by omega) y hy) rfl)
    · have him : i - L.length < M.length := by rw [List.length_append] at hi; omega
      have e1 : (fun j => if i < L.length then U i j else V (i - L.length) j) = V (i - L.length) := by funext j; rw [if_neg hil]
      have e2 : (Fs ++ Gs).getD i [] = Gs.getD (i - L.length) [] := by simp [List.getElem?_append_right (show Fs.length ≤ i by omega), l2]
      dsimp only
      rw [e1, e2, List.getElem_append_right (by omega)]
      exact hP.wr (hu (i - L.length) him) hw (fun y hy hy2 => hd y (flat_in (by omega) y hy) (by simp [hy2]))
  · rw [hfl]
    refine List.nodup_append.2 ⟨blk_nodup v', List.nodup_append.2 ⟨hn.2.1, hG, fun y hy z hz => ?_⟩, fun y hy z hz => ?_⟩
    · rintro rfl
      exact hd y hz (by simp [hy])
    · rintro rfl
      rcases List.mem_append.1 hz with hz | hz
      · rcases hvb y hy with h5 | h5
        · exact hn.2.2 y h5 y hz rfl
        · have := hlt y hz; omega
      · rcases hvb y hy with h5 | h5
        · exact hd y hz (by simp [h5])
        · have := hltG y hz; omega
  · intro y hy
    rw [hfl] at hy
    rcases List.mem_append.1 hy with hy | hy
    · rcases hvb y hy with h5 | h5
      · exact .inl (by simp [h5])
      · exact .inr (.inr h5)
    · rcases List.mem_append.1 hy with hy | hy
      · exact .inl (by simp [hy])
      · exact .inr (.inl hy)

end Go.Proofs.Ytfgglainjaplgaa

namespace Go.Proofs.Ytfgglainjaplgaa
open Go.RowKit

theorem info_iS : (Try.prog.info? 3).map (fun i => (i.zero, i.size, i.bytes)) = some (some (.int .i64 0), 1, 8) := by kernel_rfl
theorem append_intS {w : World} {ops : Array Oper} {rest : List Oper} {o : Oper} {a : Act} {Q : Exit → Act → World → Prop} (hgd : o.guard = none) (s x : Operand)
    (ho : o.op = .call { callee := .builtin .append, args := #[s, x], argTypes := #[24, 24] })
    (base : Nat) (v : Value) (L : List Int) (hs : a.eval s = v) (hown : w.ownsRow base 3 1 v L.length (L.map (Value.int .i64))) (t : Int) (hx : a.eval x = .slice (some ⟨w.heap.size, 0, none⟩) 1 1) (hb : L.length ≤ 2000000) (hbase : base ≤ w.heap.size) (R : List Int) (hR : L ++ [t] = R)
    (hK : ∀ v' w', w'.ownsRow base 3 1 v' R.length (R.map (Value.int .i64)) → w.grownBy w' v.ownBlock → (v'.ownBlock = v.ownBlock ∨ ∀ g, v'.ownBlock = some g → w.heap.size ≤ g) → wpList Try.prog ops Q rest (a.put o.dst v') w') :
    wpList Try.prog ops Q (o :: rest) a (w.alloc (.cells #[.int .i64 t] 3)) := by
  subst hR
  obtain ⟨i0, hi, hz0, hz1, hz2⟩ := info_parts info_iS
  refine wpList_append_own_at _ hgd s x 24 ho base 3 i0 _ 1 8 Try.underlying24 hi hz0 hz1 hz2 rfl (by decide) v L.length _ hs (hown.alloc _) ⟨w.heap.size, 0, none⟩ 1 1 [.int .i64 t] hx rfl (World.news_of_block (cs := #[.int .i64 t]) (t := 3) (fr := (0, 0)) (heap_alloc_new w _)) (by intro u hu; simp at hu; subst hu; rfl) (by unfold maxLen; omega) (by omega) (by simp; omega) ?_
  intro v' w' h1 h2 _ h4
  refine hK v' w' ?_ ⟨h2.os, h2.tape, h2.output, by have h := h2.size; simp at h; omega, fun k hk hr => (h2.block k (by simp; omega) hr).trans (Below.heap_alloc _ _ _ hk)⟩ ?_
  · rw [List.map_append, List.length_append]; exact h1
  · rcases h4 with h4 | h4
    · exact .inl h4
    · refine .inr fun g e => ?_
      rw [h4] at e
      have e2 : (w.alloc (.cells #[.int .i64 t] 3)).heap.size = g := Option.some.inj e
      simp at e2; omega

end Go.Proofs.Ytfgglainjaplgaa

namespace Go.Proofs.Ytfgglainjaplgaa
open Go.RowKit

set_option maxHeartbeats 800000 in
theorem specCut (n : Int) (lo : Nat) (hn : -32767 ≤ n ∧ n ≤ 32767) (hlo : lo ≤ 62) (w : World) :
    Calls Try.prog 40 #[.int .i64 n, .int .i64 lo] w fun e w' => e = .returned (.int .i64 (cutI n lo)) ∧ w = w' := by
  have hp := pow2_pos lo
  have key : ∀ a : Int, 0 ≤ a → 0 ≤ a / 2 ^ lo ∧ a / 2 ^ lo ≤ a := fun a ha => ⟨Int.ediv_nonneg ha (Int.le_of_lt hp), Int.ediv_le_self _ ha⟩
  have l0 : (0 : Int) ≤ (lo : Int) := by omega
  have l1 : ¬ ((lo : Int) < 0) := by omega
  have l2 : (lo : Int).toNat = lo := rfl
  by_cases h : n < 0
  · have hd : decide (n < 0) = true := decide_eq_true h
    have k := key (-n) (by omega)
    have e1 := i64_in (-n) (by omega)
    have e2 := i64_in (-(-n / 2 ^ lo)) (by omega)
    have e3 := i64_in (-n / 2 ^ lo) (by omega)
    have ec : cutI n lo = -(-n / 2 ^ lo) := by unfold cutI; rw [if_pos h]
    rw [ec]
    clear ec k key
    go_enter Try.func40, Try.ntmps40
    go_wp2
    go_ret
    exact ⟨rfl, rfl⟩
  · have hd : decide (n < 0) = false := decide_eq_false h
    have k := key n (by omega)
    have e3 := i64_in (n / 2 ^ lo) (by omega)
    have ec : cutI n lo = n / 2 ^ lo := by unfold cutI; rw [if_neg h]
    rw [ec]
    clear ec k key
    go_enter Try.func40, Try.ntmps40
    go_wp2
    go_ret
    exact ⟨rfl, rfl⟩

theorem specLevel13 (ao : Option Addr) (n cap : Nat) (zs : List Int) (w : World) (hr : Rd .i64 w ao n zs) (b : Bool) (hb : Hid (levB (-16383) 16383 zs = b)) :
    Calls Try.prog 38 #[.slice ao n cap] w fun e w' => e = .returned (.bool b) ∧ w.grownBy w' none := by
  have HR := hide hr
  clear hr
  go_enter Try.func38, Try.ntmps38
  go_wp2_with fail
  refine (specLev ao n cap zs (-16383) 16383 w (unhide HR) b hb).mono ?_
  rintro e w1 ⟨rfl, g1⟩
  go_wp2
  go_ret
  exact ⟨rfl, g1⟩

theorem step_append_intS {w : World} {ops : Array Oper} {o : Oper} {a : Act} {K : Act → World → Prop} {Q : Exit → Act → World → Prop} {E : Prop} (hgd : o.guard = none) (s x : Operand)
    (ho : o.op = .call { callee := .builtin .append, args := #[s, x], argTypes := #[24, 24] })
    (base : Nat) (v : Value) (L : List Int) (hs : a.eval s = v) (hown : w.ownsRow base 3 1 v L.length (L.map (Value.int .i64))) (t : Int) (hx : a.eval x = .slice (some ⟨w.heap.size, 0, none⟩) 1 1) (hb : L.length ≤ 900000) (hbase : base ≤ w.heap.size) (R : List Int) (hR : L ++ [t] = R)
    (h : ∀ v' w', w'.ownsRow base 3 1 v' R.length (R.map (Value.int .i64)) → w.grownBy w' v.ownBlock → (v'.ownBlock = v.ownBlock ∨ ∀ g, v'.ownBlock = some g → w.heap.size ≤ g) → K (a.put o.dst v') w') :
    if Region.wanted o (yielded ops a.tmps) = true then Oper.wp Try.prog o a (w.alloc (.cells #[.int .i64 t] 3)) K Q else E := by
  subst hR
  obtain ⟨i0, hi, hz0, hz1, hz2⟩ := info_parts info_iS
  refine step_append_lies _ hgd s x 24 ho base 3 i0 (.int .i64 0) 1 8 Try.underlying24 hi hz0 hz1 hz2 rfl (by decide) v L.length _ hs (hown.alloc _) ⟨w.heap.size, 0, none⟩ 1 1 [.int .i64 t] hx rfl (World.news_of_block (cs := #[.int .i64 t]) (t := 3) (fr := (0, 0)) (heap_alloc_new w _)) (by intro u hu; simp at hu; subst hu; rfl) (by omega) (by unfold maxLen; omega) (by omega) (by simp; omega) _ rfl ?_
  intro g cap w' h1 h2 h4 _
  refine h _ w' (by rw [List.map_append, List.length_append]; exact h1) ⟨h2.os, h2.tape, h2.output, by have h := h2.size; simp at h; omega, fun k hk hr => (h2.block k (by simp; omega) hr).trans (Below.heap_alloc _ _ _ hk)⟩ ?_
  rcases h4 with h4 | h4
  · exact .inl h4.symm
  · refine .inr fun q e => ?_
    have e2 : g = q := Option.some.inj e
    simp at h4
    omega

end Go.Proofs.Ytfgglainjaplgaa

namespace Go.Proofs.Ytfgglainjaplgaa
open Go.RowKit

/-- A list while it is made, beside the scan in its box and the block's numbers in the order of waves. -/
structure Fo (w wr : World) (sx : Array Value) (v : Value) (A : List Int) (zb zc : Nat) (Z : List Int) : Prop where
  sc : wr.heap[w.heap.size]? = some (.cells sx 26 (0, 0))
  own : wr.ownsRow (w.heap.size + 1) 3 1 v A.length (A.map (Value.int .i64))
  zs : wr.ownsRow (w.heap.size + 1) 3 1 (.slice (some ⟨zb, 0, none⟩) 64 zc) 64 (Z.map (Value.int .i64))
  ne : ∀ g, v.ownBlock = some g → g ≠ zb
  grown : w.grownBy wr none
theorem Fo.size {w wr : World} {sx : Array Value} {v : Value} {A : List Int} {zb zc : Nat} {Z : List Int} (h : Fo w wr sx v A zb zc Z) : w.heap.size + 1 ≤ wr.heap.size := (Array.getElem?_eq_some_iff.1 h.sc).1
theorem Fo.new {w wr w' : World} {sx : Array Value} {v : Value} {A : List Int} {zb zc : Nat} {Z : List Int} (h : Fo w wr sx v A zb zc Z) (g : wr.grownBy w' none) : Fo w w' sx v A zb zc Z :=
  ⟨at_rowS g h.sc (by simp), own_grown h.own g, own_grown h.zs g, h.ne, grown_trans h.grown g⟩
theorem Fo.more {w wr w' : World} {sx : Array Value} {v v' : Value} {A B : List Int} {zb zc : Nat} {Z : List Int} (h : Fo w wr sx v A zb zc Z) (o : w'.ownsRow (w.heap.size + 1) 3 1 v' B.length (B.map (Value.int .i64))) (g : wr.grownBy w' v.ownBlock) (hat : v'.ownBlock = v.ownBlock ∨ ∀ g, v'.ownBlock = some g → wr.heap.size ≤ g) : Fo w w' sx v' B zb zc Z := by
  refine ⟨at_rowS g h.sc (fun e => by have := (h.own.lt _ e).1; omega), o, own_beneath h.zs g (fun p q h1 h2 e => ?_), fun q e => ?_, grown_new h.grown g (fun q e => by have := (h.own.lt _ e).1; omega)⟩
  · have e1 : zb = p := Option.some.inj h1
    exact h.ne q h2 (by omega)
  · rcases hat with h1 | h1
    · exact h.ne q (by rw [← h1]; exact e)
    · have h2 := h1 q e
      have h3 := (h.zs.lt zb rfl).2
      omega
theorem Fo.at {w wr : World} {sx : Array Value} {v : Value} {A : List Int} {zb zc : Nat} {Z : List Int} (h : Fo w wr sx v A zb zc Z) (hZ : Z.length = 64) (k : Nat) (hk : k < 64) : wr.cell? ⟨zb, k, none⟩ = some (.int .i64 (Z.getD k 0)) := by
  rw [h.zs.cellAt k (by omega)]
  simp [hZ, hk]
theorem zigged_len (zs : List Int) : (zigged zs).length = 64 := made_len _
theorem lev_nums {zs : List Int} (h : levB (-16383) 16383 zs = true) : numsB (-32767) 32767 zs = true := by
  obtain ⟨h1, h2⟩ := lev_at h
  exact nums_all h1 (fun j hj => by have := h2 j hj; omega)

set_option maxRecDepth 20000 in
set_option maxHeartbeats 1600000 in
theorem specFirstOf (ao : Option Addr) (n cap : Nat) (zs : List Int) (w : World) (hr : Rd .i64 w ao n zs) (vo : Option Addr) (vn vc : Nat) (a : Scn) (L : List Int) (HL : Hid (firstG zs a = L)) :
    Calls Try.prog 14 #[.slice ao n cap, .agg #[.slice vo vn vc, .int .i64 a.fr, .int .i64 a.to, .int .i64 a.hi, .int .i64 a.lo]] w fun e w' => ∃ so sc, e = .returned (.slice so L.length sc) ∧ w'.ownsRow w.heap.size 3 1 (.slice so L.length sc) L.length (L.map (Value.int .i64)) ∧ w.grownBy w' none := by
  obtain ⟨b1, HB1⟩ : ∃ b, Hid (levB (-16383) 16383 zs = b) := ⟨_, rfl⟩
  obtain ⟨b2, HB2⟩ : ∃ b, Hid (passB a = b) := ⟨_, rfl⟩
  have HBITS := hide (fun W => specBits W vo vn vc a b2 HB2)
  have hp := unhide HL
  unfold firstG at hp
  rw [unhide HB1, unhide HB2] at hp
  have hpin : b2 = true → 0 ≤ a.fr ∧ a.fr ≤ a.to ∧ a.to ≤ 63 ∧ 0 ≤ a.lo ∧ a.lo ≤ 13 := fun e => by
    have h := unhide HB2
    rw [e] at h
    unfold passB at h
    simp only [Bool.and_eq_true, decide_eq_true_eq] at h
    omega
  have epl : placesOf a = (a.to - a.fr + 1).toNat := rfl
  rw [epl] at hp
  obtain ⟨cs, fr, to, hi, lo⟩ := a
  dsimp only at HBITS hp hpin ⊢
  obtain ⟨W2, HW2⟩ : ∃ W2, Hid ((w.alloc (.cells #[.slice vo vn vc, .int .i64 fr, .int .i64 to, .int .i64 hi, .int .i64 lo] 26)).alloc (.cells #[] 3) = W2) := ⟨_, rfl⟩
  have G0 : w.grownBy W2 none := by rw [← unhide HW2]; exact grown_alloc (grown_alloc (World.grownBy.refl _ _) _) _
  have HB0 : Hid (W2.heap[w.heap.size]? = some (.cells #[.slice vo vn vc, .int .i64 fr, .int .i64 to, .int .i64 hi, .int .i64 lo] 26 (0, 0))) := by
    rw [← unhide HW2]
    exact at_rowS (World.grownBy_alloc _ _ none) (heap_alloc_new w _) (by simp)
  have HO0 : Hid (W2.ownsRow (w.heap.size + 1) 3 1 (.slice (some ⟨w.heap.size + 1, 0, none⟩) 0 0) 0 []) := by
    rw [← unhide HW2]
    have := World.ownsRow_lit (w.alloc (.cells #[.slice vo vn vc, .int .i64 fr, .int .i64 to, .int .i64 hi, .int .i64 lo] 26)) (e := 3) (size := 1) (base := w.heap.size + 1) #[] 0 (by simp) (by unfold maxLen; omega) rfl
    unfold Hid
    simpa using this
  have HLV := hide (specLevel13 ao n cap zs W2 (hr.grown G0) b1 HB1)
  have HR := hide hr
  have HG0 := hide G0
  have HP := hide hp
  have HPIN := hide hpin
  clear hr G0 hp hpin epl HL
  go_enter Try.func14, Try.ntmps14
  go_wp2_with fail
  rw [unhide HW2]
  clear HW2
  refine (unhide HLV).mono ?_
  rintro e w3 ⟨rfl, g3⟩
  have HG3 := hide (grown_trans (unhide HG0) g3)
  have HB3 := hide (at_rowS g3 (unhide HB0) (by simp))
  have HO3 := hide (own_grown (unhide HO0) g3)
  clear g3 HG0 HB0 HO0 HLV
  have HNIL : Hid (∀ W, w3.grownBy W none → L = [] → ∃ so sc, Ending.returned (.slice (some ⟨w.heap.size + 1, 0, none⟩) 0 0) = .returned (.slice so L.length sc) ∧ W.ownsRow w.heap.size 3 1 (.slice so L.length sc) L.length (L.map (Value.int .i64)) ∧ w.grownBy W none) := fun W g e => by
    subst e
    exact ⟨_, _, rfl, own_base (own_grown (unhide HO3) g) (by omega), grown_trans (unhide HG3) g⟩
  cases b1 with
  | false =>
    have HN := hide (unhide HNIL w3 (World.grownBy.refl _ _) (unhide HP).symm)
    go_wp2
    go_ret
    exact unhide HN
  | true =>
    obtain ⟨c0, c1, c2, c3, c4⟩ := scanCells (unhide HB3)
    go_wp2_with fail
    clear c0 c1 c2 c3 c4
    refine (unhide HBITS w3).mono ?_
    rintro e w4 ⟨rfl, g4⟩
    have HB4 := hide (at_rowS g4 (unhide HB3) (by simp))
    have HG4 := hide g4
    clear g4 HBITS
    obtain ⟨c0, c1, c2, c3, c4⟩ := scanCells (unhide HB4)
    cases b2 with
    | false =>
      have HN := hide (unhide HNIL w4 (unhide HG4) (unhide HP).symm)
      go_wp2
      go_ret
      exact unhide HN
    | true =>
      by_cases h0 : hi = 0
      · have n0 : (hi == 0) = true := by simp [h0]
        have HP2 : Hid (firstL (zigged zs) fr.toNat (to - fr + 1).toNat lo.toNat = L) := by
          have h := unhide HP
          rw [decide_eq_true h0] at h
          exact h
        obtain ⟨p1, p2, p3, p4, p5⟩ := unhide HPIN rfl
        obtain ⟨k0, rfl⟩ := Int.eq_ofNat_of_zero_le p1
        obtain ⟨k1, rfl⟩ := Int.eq_ofNat_of_zero_le (show 0 ≤ to by omega)
        obtain ⟨l0, rfl⟩ := Int.eq_ofNat_of_zero_le p4
        have em : ((k1 : Int) - (k0 : Int) + 1).toNat = k1 + 1 - k0 := by omega
        rw [em, Int.toNat_natCast, Int.toNat_natCast] at HP2
        have HTZ := hide (specToZig ao n cap zs w4 ((unhide HR).grown (grown_trans (unhide HG3) (unhide HG4))) true (lev_nums (unhide HB1)) (zigged zs) rfl)
        clear h0 em HNIL HP HPIN
        go_wp2_with fail
        clear c0 c1 c2 c3 c4 n0
        refine (unhide HTZ).mono ?_
        rintro e w5 ⟨zo, zc, rfl, o5, g5⟩
        rw [zigged_len] at o5 ⊢
        obtain ⟨zb, rfl, hzb, _⟩ := own_at o5 (by omega)
        obtain ⟨Z, HZ⟩ : ∃ Z, Hid (zigged zs = Z) := ⟨_, rfl⟩
        have HZL : Hid (Z.length = 64) := by rw [← unhide HZ]; exact zigged_len zs
        have HLZ : Hid (∀ j, j < 64 → -16383 ≤ Z.getD j 0 ∧ Z.getD j 0 ≤ 16383) := fun j hj => by
          rw [← unhide HZ]
          unfold zigged
          rw [made_at _ j hj]
          exact (lev_at (unhide HB1)).2 _ (zz_lt j hj)
        rw [unhide HZ] at o5 HP2
        have hs3 : w.heap.size + 1 < w3.heap.size := ((unhide HO3).lt _ rfl).2
        have hs4 := (unhide HG4).size
        have HF5 : Hid (Fo w w5 #[.slice vo vn vc, .int .i64 k0, .int .i64 k1, .int .i64 hi, .int .i64 l0] (.slice (some ⟨w.heap.size + 1, 0, none⟩) 0 0) [] zb zc Z) :=
          ⟨at_rowS g5 (unhide HB4) (by simp), own_grown (own_grown (unhide HO3) (unhide HG4)) g5, own_base o5 (by omega), fun g e => by have e1 : w.heap.size + 1 = g := Option.some.inj e; omega, grown_trans (grown_trans (unhide HG3) (unhide HG4)) g5⟩
        clear o5 g5 HTZ HG3 HO3 HB3 HG4 HB4 hzb hs3 hs4 HZ
        obtain ⟨c0, c1, c2, c3, c4⟩ := scanCells (unhide HF5).sc
        go_wp2
        clear c0 c1 c2 c3 c4
        go_loopw [5, 7] (fun ov kv wr => ∃ (m : Nat) (so : Option Addr) (sc : Nat), m ≤ k1 + 1 - k0 ∧ kv = .int .i64 (k0 + m : Nat) ∧ ov = .slice so m sc ∧ Hid (Fo w wr #[.slice vo vn vc, .int .i64 k0, .int .i64 k1, .int .i64 hi, .int .i64 l0] (.slice so m sc) (firstL Z k0 m l0) zb zc Z)) (fun _ kv _ => k1 + 1 - (intOf kv).toNat)
        case atStart => exact ⟨0, _, _, Nat.zero_le _, rfl, rfl, HF5⟩
        case round =>
          clear HF5
          obtain ⟨m, so, sc, hm, rfl, rfl, hF⟩ := hrel
          obtain ⟨d0, d1, d2, d3, d4⟩ := scanCells (unhide hF).sc
          by_cases hlt : m < k1 + 1 - k0
          · obtain ⟨kk, HKK⟩ : ∃ kk, Hid (k0 + m = kk) := ⟨_, rfl⟩
            have hkk : kk ≤ k1 := by have := unhide HKK; omega
            have hd : decide ((kk : Int) ≤ (k1 : Int)) = true := decide_eq_true (by omega)
            have i0 : (0 : Int) ≤ (kk : Int) := by omega
            have i1 : (kk : Int) < 64 := by omega
            rw [unhide HKK]
            have zc1 := (unhide hF).at (unhide HZL) kk (by omega)
            have hlev := unhide HLZ kk (by omega)
            obtain ⟨A, HA⟩ : ∃ A, Hid (firstL Z k0 m l0 = A) := ⟨_, rfl⟩
            obtain ⟨R, HRR⟩ : ∃ R, Hid (firstL Z k0 (m + 1) l0 = R) := ⟨_, rfl⟩
            have HAL : Hid (A.length = m) := by unfold Hid; rw [← unhide HA]; simp [firstL]
            have HRL : Hid (R.length = m + 1) := by unfold Hid; rw [← unhide HRR]; simp [firstL]
            have HNX : Hid (A ++ [cutI (Z.getD kk 0) l0] = R) := by
              unfold Hid
              rw [← unhide HA, ← unhide HRR, ← unhide HKK]
              unfold firstL
              rw [List.range_succ, List.map_append]
              rfl
            generalize Z.getD kk 0 = zv at zc1 hlev HNX
            have HCUT := hide (fun W => specCut zv l0 (by omega) (by omega) W)
            obtain ⟨cv, HCV⟩ : ∃ cv, Hid (cutI zv l0 = cv) := ⟨_, rfl⟩
            rw [unhide HCV] at HCUT HNX
            rw [unhide HA] at hF
            have hsz := (unhide hF).size
            have HFD := hide ((unhide hF).new (grown_drew (World.grownBy.refl wr none)))
            have HZB : Hid (∀ g, Value.ownBlock (.slice so m sc) = some g → g ≠ zb) := (unhide hF).ne
            clear HA hlev HCV
            go_wp2
            refine wp_region_noPanic ?_
            refine wp_region_tail (fun W => W.cell? ⟨zb, kk, none⟩ = some (.int .i64 zv) ∧ W.cell? ⟨w.heap.size, 4, none⟩ = some (.int .i64 l0)) [true, true, true, true, true, true, true, false, false, false, false] (by kernel_rfl) (fun _ _ _ _ _ h => h) rfl (by kernel_rfl) ⟨zc1, d4⟩ ?_
            iterate 7
              refine heldF_take (v := ?_) (Or.inl ⟨by rfl, ?_⟩) ?_
              rotate_left 1
              · intro w' hSw
                try dsimp only at hSw
                obtain ⟨y1, y2⟩ := hSw
                go_simp
                try with_reducible rfl
              simp only [Act.put, List.setIfInBounds_toArray, List.set_cons_zero, List.set_cons_succ]
            refine heldF_skip (heldF_skip (heldF_skip (heldF_skip (heldF_nil ?_))))
            iterate 7 refine tailF_skip ?_
            refine tailF_step (fun K hK => ?_)
            go_simp
            refine (unhide HCUT _).mono ?_
            rintro e w3 ⟨rfl, rfl⟩
            refine hK.out _ _ ⟨zc1, d4⟩ ?_
            clear hK K
            refine tailF_step (fun K hK => ?_)
            go_simp
            have gA := World.grownBy_alloc wr.drew (.cells #[.int .i64 cv] 3) none
            refine hK.out _ _ ⟨gA.cell zc1 (by simp), gA.cell d4 (by simp)⟩ ?_
            clear hK K gA
            refine tailF_step (fun K hK => ?_)
            refine step_append_intS (w := wr.drew) (by rfl) _ _ (by rfl) (w.heap.size + 1) (.slice so m sc) A (by rfl) (unhide HFD).own cv (by rfl) (by rw [unhide HAL]; omega) hsz R (unhide HNX) ?_
            intro v4 w4 o4 g4 hat4
            have HF4 := hide ((unhide HFD).more o4 g4 hat4)
            have hk1 : w4.cell? ⟨zb, kk, none⟩ = some (.int .i64 zv) := g4.cell zc1 (fun e => unhide HZB zb e.symm rfl)
            have hk2 : w4.cell? ⟨w.heap.size, 4, none⟩ = some (.int .i64 l0) := (scanCells (unhide HF4).sc).2.2.2.2
            refine hK.out _ _ ⟨hk1, hk2⟩ ?_
            clear hK K
            rw [unhide HRL] at o4
            obtain ⟨so4, sc4, rfl⟩ := own_form o4
            try simp only [Act.put, List.setIfInBounds_toArray, List.set_cons_zero, List.set_cons_succ]
            refine tailF_step (fun K hK => ?_)
            go_simp
            refine hK.out _ _ ⟨hk1, hk2⟩ ?_
            clear hK K
            refine tailF_nil (NoPanic.normal ?_)
            rw [← unhide HRR] at HF4
            clear o4 g4 hat4 hk1 hk2 d0 d1 d2 d3 d4 zc1 HFD hF HNX HAL HRL HRR HCUT
            go_wp2
            go_roundw
            case rel => exact ⟨m + 1, so4, sc4, by omega, by rw [show k0 + (m + 1) = kk + 1 by have := unhide HKK; omega]; go_num, rfl, HF4⟩
            case measure => have := unhide HKK; simp [intOf]; omega
          · obtain rfl : m = k1 + 1 - k0 := by omega
            have hd : decide (((k0 + (k1 + 1 - k0) : Nat) : Int) ≤ (k1 : Int)) = false := decide_eq_false (by omega)
            rw [unhide HP2] at hF
            have hLl : L.length = k1 + 1 - k0 := by rw [← unhide HP2]; simp [firstL]
            have HRES : Hid (∃ so' sc', Ending.returned (.slice so (k1 + 1 - k0) sc) = .returned (.slice so' L.length sc') ∧ wr.ownsRow w.heap.size 3 1 (.slice so' L.length sc') L.length (L.map (Value.int .i64)) ∧ w.grownBy wr none) := by
              refine ⟨so, sc, by rw [hLl], ?_, (unhide hF).grown⟩
              have h := (unhide hF).own
              rw [← hLl] at h
              exact own_base h (by omega)
            clear hLl hF
            go_wp2
            go_ret
            exact unhide HRES
      · have n0 : (hi == 0) = false := by simp [h0]
        have e : L = [] := by
          have h := unhide HP
          rw [decide_eq_false h0] at h
          exact h.symm
        have HN := hide (unhide HNIL w4 (unhide HG4) e)
        go_wp2
        go_ret
        exact unhide HN

end Go.Proofs.Ytfgglainjaplgaa

namespace Go.Proofs.Ytfgglainjaplgaa
open Go.RowKit

/-- The block's numbers in the order of waves while they are written, beside the scan in its box. -/
structure Pz (w wr : World) (sx : Array Value) (zb zc : Nat) (Z : List Int) : Prop where
  sc : wr.heap[w.heap.size]? = some (.cells sx 26 (0, 0))
  zs : wr.ownsRow (w.heap.size + 1) 3 1 (.slice (some ⟨zb, 0, none⟩) 64 zc) 64 (Z.map (Value.int .i64))
  len : Z.length = 64
  lev : ∀ j, j < 64 → -16383 ≤ Z.getD j 0 ∧ Z.getD j 0 ≤ 16383
  grown : w.grownBy wr none
theorem Pz.new {w wr w' : World} {sx : Array Value} {zb zc : Nat} {Z : List Int} (h : Pz w wr sx zb zc Z) (g : wr.grownBy w' none) : Pz w w' sx zb zc Z :=
  ⟨at_rowS g h.sc (by simp), own_grown h.zs g, h.len, h.lev, grown_trans h.grown g⟩
theorem Pz.lo {w wr : World} {sx : Array Value} {zb zc : Nat} {Z : List Int} (h : Pz w wr sx zb zc Z) : w.heap.size + 1 ≤ zb := (h.zs.lt zb rfl).1
theorem Pz.at {w wr : World} {sx : Array Value} {zb zc : Nat} {Z : List Int} (h : Pz w wr sx zb zc Z) (k : Nat) (hk : k < 64) : wr.cell? ⟨zb, k, none⟩ = some (.int .i64 (Z.getD k 0)) := by
  rw [h.zs.cellAt k (by omega)]
  simp [h.len, hk]
theorem Pz.put {w wr : World} {sx : Array Value} {zb zc : Nat} {Z : List Int} (h : Pz w wr sx zb zc Z) (k : Nat) (v : Int) (hv : -16383 ≤ v ∧ v ≤ 16383) : Pz w (wr.setCell ⟨zb, k, none⟩ (.int .i64 v)) sx zb zc (Z.set k v) := by
  have hl := h.lo
  have g := grown_set wr zb k (.int .i64 v)
  have st := h.zs.stored k (.int .i64 v)
  refine ⟨at_rowS g h.sc (fun e => by injection e with e; omega), ?_, by rw [List.length_set]; exact h.len, fun j hj => ?_, grown_new h.grown g (fun q e => by injection e with e; omega)⟩
  · rw [List.map_set]; exact st.1
  · by_cases e : k = j
    · subst e
      simp [h.len, hj]
      exact hv
    · have := h.lev j hj
      simpa [e] using this
theorem Pz.nums {w wr : World} {sx : Array Value} {zb zc : Nat} {Z : List Int} (h : Pz w wr sx zb zc Z) : numsB (-32767) 32767 Z = true := nums_all h.len (fun j hj => by have := h.lev j hj; omega)
theorem Pz.rd {w wr : World} {sx : Array Value} {zb zc : Nat} {Z : List Int} (h : Pz w wr sx zb zc Z) : Rd .i64 wr (some ⟨zb, 0, none⟩) 64 Z :=
  ⟨h.len, fun i hi => ⟨zb, 0, rfl, by rw [Nat.zero_add]; exact h.at i hi⟩⟩
theorem pow13 (l : Nat) (h : l ≤ 13) : (1 : Int) ≤ 2 ^ l ∧ (2 : Int) ^ l ≤ 8192 := by
  have : l = 0 ∨ l = 1 ∨ l = 2 ∨ l = 3 ∨ l = 4 ∨ l = 5 ∨ l = 6 ∨ l = 7 ∨ l = 8 ∨ l = 9 ∨ l = 10 ∨ l = 11 ∨ l = 12 ∨ l = 13 := by omega
  rcases this with rfl | rfl | rfl | rfl | rfl | rfl | rfl | rfl | rfl | rfl | rfl | rfl | rfl | rfl <;> decide
theorem mul13 {n p : Int} (hn : -16383 ≤ n ∧ n ≤ 16383) (hp : 1 ≤ p ∧ p ≤ 8192) : -134209536 ≤ n * p ∧ n * p ≤ 134209536 := by
  have h1 : n * p ≤ 16383 * p := Int.mul_le_mul_of_nonneg_right hn.2 (by omega)
  have h2 : -16383 * p ≤ n * p := Int.mul_le_mul_of_nonneg_right hn.1 (by omega)
  omega

set_option maxRecDepth 20000 in
set_option maxHeartbeats 3200000 in
theorem specPutFirst (ao : Option Addr) (n cap : Nat) (zs : List Int) (w : World) (hr : Rd .i64 w ao n zs) (vo : Option Addr) (vn vc : Nat) (a : Scn) (lo' : Option Addr) (ln lc : Nat) (ls : List Int) (hls : Rd .i64 w lo' ln ls) (hln : ln ≤ 4194304) (L : List Int) (HL : Hid (putFirstG zs a ls = L)) :
    Calls Try.prog 30 #[.slice ao n cap, .agg #[.slice vo vn vc, .int .i64 a.fr, .int .i64 a.to, .int .i64 a.hi, .int .i64 a.lo], .slice lo' ln lc] w fun e w' => ∃ so sc, e = .returned (.slice so L.length sc) ∧ w'.ownsRow w.heap.size 3 1 (.slice so L.length sc) L.length (L.map (Value.int .i64)) ∧ w.grownBy w' none := by
  obtain ⟨b1, HB1⟩ : ∃ b, Hid (levB (-16383) 16383 zs = b) := ⟨_, rfl⟩
  obtain ⟨b2, HB2⟩ : ∃ b, Hid (passB a = b) := ⟨_, rfl⟩
  have HBITS := hide (fun W => specBits W vo vn vc a b2 HB2)
  have hp := unhide HL
  unfold putFirstG at hp
  rw [unhide HB1, unhide HB2] at hp
  have hpin : b2 = true → 0 ≤ a.fr ∧ a.fr ≤ a.to ∧ a.to ≤ 63 ∧ 0 ≤ a.lo ∧ a.lo ≤ 13 := fun e => by
    have h := unhide HB2
    rw [e] at h
    unfold passB at h
    simp only [Bool.and_eq_true, decide_eq_true_eq] at h
    omega
  have epl : placesOf a = (a.to - a.fr + 1).toNat := rfl
  rw [epl, hls.1] at hp
  have hll := hls.1
  obtain ⟨cs, fr, to, hi, lo⟩ := a
  dsimp only at HBITS hp hpin ⊢
  have G0 : w.grownBy (w.alloc (.cells #[.slice vo vn vc, .int .i64 fr, .int .i64 to, .int .i64 hi, .int .i64 lo] 26)) none := World.grownBy_alloc _ _ _
  have HB0 := hide (heap_alloc_new w (.cells #[.slice vo vn vc, .int .i64 fr, .int .i64 to, .int .i64 hi, .int .i64 lo] 26))
  have HLV := hide (specLevel13 ao n cap zs _ (hr.grown G0) b1 HB1)
  have HR := hide hr
  have HLS := hide hls
  have HLL := hide hll
  have HG0 := hide G0
  have HP := hide hp
  have HPIN := hide hpin
  clear hr G0 hp hpin epl HL hls hll
  have HNIL : Hid (∀ W, w.grownBy W none → L = [] → ∃ so sc, Ending.returned (.slice (some ⟨W.heap.size, 0, none⟩) 0 0) = .returned (.slice so L.length sc) ∧ (W.alloc (.cells #[] 3)).ownsRow w.heap.size 3 1 (.slice so L.length sc) L.length (L.map (Value.int .i64)) ∧ w.grownBy (W.alloc (.cells #[] 3)) none) := fun W g e => by
    subst e
    exact ⟨_, _, rfl, World.ownsRow_lit W #[] 0 g.size (by unfold maxLen; omega) rfl, grown_alloc g _⟩
  go_enter Try.func30, Try.ntmps30
  go_wp2_with fail
  refine (unhide HLV).mono ?_
  rintro e w3 ⟨rfl, g3⟩
  have HG3 := hide (grown_trans (unhide HG0) g3)
  have HB3 := hide (at_rowS g3 (unhide HB0) (by simp))
  clear g3 HG0 HB0 HLV
  cases b1 with
  | false =>
    have HN := hide (unhide HNIL w3 (unhide HG3) (unhide HP).symm)
    go_wp2
    go_ret
    exact unhide HN
  | true =>
    obtain ⟨c0, c1, c2, c3, c4⟩ := scanCells (unhide HB3)
    go_wp2_with fail
    clear c0 c1 c2 c3 c4
    refine (unhide HBITS w3).mono ?_
    rintro e w4 ⟨rfl, g4⟩
    have HB4 := hide (at_rowS g4 (unhide HB3) (by simp))
    have HG4 := hide (grown_trans (unhide HG3) g4)
    clear g4 HBITS HG3 HB3
    obtain ⟨c0, c1, c2, c3, c4⟩ := scanCells (unhide HB4)
    cases b2 with
    | false =>
      have HN := hide (unhide HNIL w4 (unhide HG4) (unhide HP).symm)
      go_wp2
      go_ret
      exact unhide HN
    | true =>
      obtain ⟨p1, p2, p3, p4, p5⟩ := unhide HPIN rfl
      by_cases h0 : hi = 0
      · have n0 : (hi == 0) = true := by simp [h0]
        have nb : (hi != 0) = false := by simp [h0]
        obtain ⟨k0, rfl⟩ := Int.eq_ofNat_of_zero_le p1
        obtain ⟨k1, rfl⟩ := Int.eq_ofNat_of_zero_le (show 0 ≤ to by omega)
        obtain ⟨l0, rfl⟩ := Int.eq_ofNat_of_zero_le p4
        have e1 := i64_in ((k1 : Int) - (k0 : Int)) (by omega)
        have e2 := i64_in ((k1 : Int) - (k0 : Int) + 1) (by omega)
        by_cases hlen : (ln : Int) = (k1 : Int) - (k0 : Int) + 1
        · have hq : ((ln : Int) == (k1 : Int) - (k0 : Int) + 1) = true := by simp [hlen]
          have hqb : ((ln : Int) != (k1 : Int) - (k0 : Int) + 1) = false := by simp [hlen]
          have em : ((k1 : Int) - (k0 : Int) + 1).toNat = ln := by omega
          have HP2 : Hid (ofO (putT (stepF l0) k0 ls (zigged zs) ln) = L) := by
            have h := unhide HP
            rw [decide_eq_true h0, decide_eq_true hlen, em, Int.toNat_natCast, Int.toNat_natCast] at h
            exact h
          have HTZ := hide (specToZig ao n cap zs w4 ((unhide HR).grown (unhide HG4)) true (lev_nums (unhide HB1)) (zigged zs) rfl)
          have hkl : k1 + 1 = k0 + ln := by omega
          clear h0 em HP HPIN hlen
          go_wp2_with fail
          clear c0 c1 c2 c3 c4 n0 nb hq hqb e1 e2
          refine (unhide HTZ).mono ?_
          rintro e w5 ⟨zo, zc, rfl, o5, g5⟩
          rw [zigged_len] at o5 ⊢
          obtain ⟨zb, rfl, hzb, _⟩ := own_at o5 (by omega)
          have hs4 := (Array.getElem?_eq_some_iff.1 (unhide HB4)).1
          have HF5 : Hid (Pz w w5 #[.slice vo vn vc, .int .i64 k0, .int .i64 k1, .int .i64 hi, .int .i64 l0] zb zc (zigged zs)) :=
            ⟨at_rowS g5 (unhide HB4) (by simp), own_base o5 (by omega), zigged_len zs, fun j hj => by
              unfold zigged
              rw [made_at _ j hj]
              exact (lev_at (unhide HB1)).2 _ (zz_lt j hj), grown_trans (unhide HG4) g5⟩
          clear o5 g5 HTZ HG4 HB4 hzb hs4
          obtain ⟨c0, c1, c2, c3, c4⟩ := scanCells (unhide HF5).sc
          go_wp2
          clear c0 c1 c2 c3 c4
          go_loopw [8] (fun kv wr => ∃ (m : Nat) (Z : List Int), m ≤ ln ∧ kv = .int .i64 (k0 + m : Nat) ∧ Hid (Pz w wr #[.slice vo vn vc, .int .i64 k0, .int .i64 k1, .int .i64 hi, .int .i64 l0] zb zc Z) ∧ Hid (putT (stepF l0) k0 ls (zigged zs) m = some Z)) (fun kv _ => k1 + 1 - (intOf kv).toNat)
          case atStart => exact ⟨0, _, Nat.zero_le _, rfl, HF5, rfl⟩
          case round =>
            clear HF5
            obtain ⟨m, Z, hm, rfl, hF, hZ⟩ := hrel
            obtain ⟨c0, c1, c2, c3, c4⟩ := scanCells (unhide hF).sc
            by_cases hlt : m < ln
            · obtain ⟨kk, HKK⟩ : ∃ kk, Hid (k0 + m = kk) := ⟨_, rfl⟩
              have hkk : kk ≤ k1 := by have := unhide HKK; omega
              have hd : decide ((kk : Int) ≤ (k1 : Int)) = true := decide_eq_true (by omega)
              have i0 : (0 : Int) ≤ (kk : Int) := by omega
              have i1 : (kk : Int) < 64 := by omega
              have es : (kk : Int) - (k0 : Int) = (m : Int) := by have := unhide HKK; omega
              have e1 := i64_in (m : Int) (by omega)
              have j0 : (0 : Int) ≤ (m : Int) := by omega
              have j1 : (m : Int) < (ln : Int) := by omega
              rw [unhide HKK]
              obtain ⟨lb, loff, rfl, hlc⟩ := ((unhide HLS).grown (unhide hF).grown).2 m hlt
              have NX : Hid (putT (stepF l0) k0 ls (zigged zs) (m + 1) = stepF l0 kk (ls.getD m 0) Z) := by unfold Hid; rw [putT_next (unhide hZ), unhide HKK]
              have FAIL : Hid (stepF l0 kk (ls.getD m 0) Z = none → L = []) := fun h => by
                rw [← unhide HP2, putT_none ((unhide NX).trans h) ln hlt]
                rfl
              generalize ls.getD m 0 = nv at hlc NX FAIL
              obtain ⟨t1, HT1⟩ : ∃ t, Hid (decide (-16383 ≤ nv ∧ nv ≤ 16383) = t) := ⟨_, rfl⟩
              have HIN1 : Hid (inLev nv = t1) := unhide HT1
              go_wp2_with fail
              refine (between nv (-16383) 16383 t1 HT1 wr).mono ?_
              rintro e w6 ⟨rfl, rfl⟩
              cases t1 with
              | false =>
                have HN := hide (unhide HNIL w6 (unhide hF).grown (unhide FAIL (by unfold stepF; rw [unhide HIN1]; rfl)))
                go_wp2
                go_ret
                exact unhide HN
              | true =>
                have hb := of_decide_eq_true (unhide HT1)
                have hp13 := pow13 l0 (by omega)
                have hm13 := mul13 hb hp13
                have l1 : ¬ ((l0 : Int) < 0) := by omega
                have l2 : (l0 : Int).toNat = l0 := rfl
                obtain ⟨pw, HPW⟩ : ∃ pw, (2 : Int) ^ l0 = pw := ⟨_, rfl⟩
                rw [HPW] at hp13 hm13
                have e3 := i64_in pw (by omega)
                have e4 := i64_in (nv * pw) (by omega)
                obtain ⟨t2, HT2⟩ : ∃ t, Hid (decide (-16383 ≤ nv * pw ∧ nv * pw ≤ 16383) = t) := ⟨_, rfl⟩
                have HIN2 : Hid (inLev (nv * 2 ^ l0) = t2) := by unfold Hid; rw [HPW]; exact unhide HT2
                have HPW' := hide HPW
                go_wp2_with fail
                refine (between (nv * pw) (-16383) 16383 t2 HT2 w6).mono ?_
                rintro e w7 ⟨rfl, rfl⟩
                cases t2 with
                | false =>
                  have HN := hide (unhide HNIL w7 (unhide hF).grown (unhide FAIL (by unfold stepF; rw [unhide HIN1, unhide HIN2]; rfl)))
                  go_wp2
                  go_ret
                  exact unhide HN
                | true =>
                  have hb2 := of_decide_eq_true (unhide HT2)
                  have HF7 := hide ((unhide hF).put kk (nv * pw) hb2)
                  have HZ7 : Hid (putT (stepF l0) k0 ls (zigged zs) (m + 1) = some (Z.set kk (nv * pw))) := by
                    unfold Hid
                    rw [unhide NX]
                    unfold stepF
                    rw [unhide HIN1, unhide HIN2, unhide HPW']
                    rfl
                  have cz := (unhide hF).at kk (by omega)
                  have fz := (unhide hF).zs.frozenAt kk
                  clear hb hb2 NX FAIL
                  go_wp2
                  go_roundw
                  case rel => exact ⟨m + 1, _, by omega, by rw [show k0 + (m + 1) = kk + 1 by have := unhide HKK; omega]; go_num, HF7, HZ7⟩
                  case measure => have := unhide HKK; simp [intOf]; omega
            · obtain rfl : m = ln := by omega
              have hd : decide (((k0 + m : Nat) : Int) ≤ (k1 : Int)) = false := decide_eq_false (by omega)
              have eL : unzigged Z = L := by rw [← unhide HP2, unhide hZ]; rfl
              have HFZ := hide (specFromZig (some ⟨zb, 0, none⟩) 64 zc Z wr (unhide hF).rd true (unhide hF).nums L (by unfold Hid; rw [if_pos rfl]; exact eL))
              go_wp2_with fail
              refine (unhide HFZ).mono ?_
              rintro e w6 ⟨so, sc, rfl, o6, g6⟩
              have hs6 := (unhide hF).grown.size
              have HRES : Hid (∃ so' sc', Ending.returned (.slice so L.length sc) = .returned (.slice so' L.length sc') ∧ w6.ownsRow w.heap.size 3 1 (.slice so' L.length sc') L.length (L.map (Value.int .i64)) ∧ w.grownBy w6 none) := ⟨so, sc, rfl, own_base o6 hs6, grown_trans (unhide hF).grown g6⟩
              clear o6 g6 HFZ eL
              go_wp2
              go_ret
              exact unhide HRES
        · have hq : ((ln : Int) == (k1 : Int) - (k0 : Int) + 1) = false := by simp [hlen]
          have hqb : ((ln : Int) != (k1 : Int) - (k0 : Int) + 1) = true := by simp [hlen]
          have e : L = [] := by
            have h := unhide HP
            rw [decide_eq_false hlen, Bool.and_false] at h
            exact h.symm
          have HN := hide (unhide HNIL w4 (unhide HG4) e)
          go_wp2
          go_ret
          exact unhide HN
      · have n0 : (hi == 0) = false := by simp [h0]
        have nb : (hi != 0) = true := by simp [h0]
        have e : L = [] := by
          have h := unhide HP
          rw [decide_eq_false h0] at h
          exact h.symm
        have HN := hide (unhide HNIL w4 (unhide HG4) e)
        go_wp2
        go_ret
        exact unhide HN

end Go.Proofs.Ytfgglainjaplgaa

namespace Go.Proofs.Ytfgglainjaplgaa
open Go.RowKit

set_option maxRecDepth 20000 in
set_option maxHeartbeats 6400000 in
theorem lawPutFirst (HI : Hid ImplPutF) (ao : Option Addr) (n cap : Nat) (zs : List Int) (v : Value) (a : Scn) (bo : Option Addr) (n2 cap2 : Nat) (ls : List Int) (w : World) (hr : Rd .i64 w ao n zs) (hmn : n ≤ maxLen) (hx : RdScZ w (scV v a) a) (hr2 : Rd .i64 w bo n2 ls) (hmn2 : n2 ≤ maxLen) :
    Calls Try.prog 5 #[.slice ao n cap, scV v a, .slice bo n2 cap2] w fun e w' => e = .returned (.bool true) ∧ Below w.heap.size w w' := by
  obtain ⟨cs, fr, to, hi, lo⟩ := a
  obtain ⟨xo, m, xc, rfl, hx0, hmx⟩ := scan_form hx
  have HX := hide hx0
  have HR := hide hr
  have HR2 := hide hr2
  unfold scV
  dsimp only
  obtain ⟨r, HSZ⟩ : ∃ r : Int, Hid ((if m ≤ 1048576 then (1048576 : Int) - m else -1) = r) := ⟨_, rfl⟩
  have HS1 := hide (fun W (h : w.grownBy W none) => szScan1 xo m xc cs fr to hi lo W (hx0.grown h) hmx r HSZ)
  unfold maxLen at *
  clear hr hx hx0 hr2
  have I0 := hide (In1s.start w #[.slice xo m xc, .int .i64 fr, .int .i64 to, .int .i64 hi, .int .i64 lo])
  have Z0 := hide (unhide I0).size
  have c0 := scanCells (unhide I0).sb
  by_cases hbig : n ≤ 1048576
  · have hdec : decide ((1048576 : Int) < (n : Int)) = false := by simp; omega
    have hn : n ≤ 4194304 := by omega
    by_cases hbig2 : n2 ≤ 1048576
    · have hdec2 : decide ((1048576 : Int) < (n2 : Int)) = false := by simp; omega
      have hn2 : n2 ≤ 4194304 := by omega
      by_cases hm : m ≤ 1048576
      · have hr1 : decide (r < 0) = false := decide_eq_false (by have := unhide HSZ; rw [if_pos hm] at this; omega)
        have hm4 : m ≤ 4194304 := by omega
        obtain ⟨L, HL⟩ : ∃ L, Hid (putFirstG zs ⟨cs, fr, to, hi, lo⟩ ls = L) := ⟨_, rfl⟩
        have hL64 : L.length ≤ 64 := by rw [← unhide HL]; exact putF_few _ _ _
        have hL : L.length ≤ 4194304 := by omega
        have hneg : decide (1 + (n : Int) + (m : Int) + (n2 : Int) < 0) = false := decide_eq_false (by omega)
        have hneg2 : decide (1 + (L.length : Int) < 0) = false := decide_eq_false (by omega)
        go_enter Try.func5, Try.ntmps5
        go_wp2_with fail
        generalize (w.alloc (.cells #[.slice xo m xc, .int .i64 fr, .int .i64 to, .int .i64 hi, .int .i64 lo] 45)) = wx at *
        refine (unhide HS1 wx (unhide I0).grown).mono ?_
        rintro e w1 ⟨rfl, g1⟩
        clear c0
        have Z1 := hide g1.size
        have I1 := hide ((unhide I0).new g1)
        clear I0 g1
        clear HS1
        go_wp2
        refine wp_region_noPanic ?_
        have gd := grown_drew (World.grownBy.refl w1 none)
        have Z2 := hide gd.size
        have I2 := hide ((unhide I1).new gd)
        clear I1 gd
        refine wp_region_tailL 20 (fun W => In1s w W #[.slice xo m xc, .int .i64 fr, .int .i64 to, .int .i64 hi, .int .i64 lo]) [true, false, true, false, true, false, false, false] (by kernel_rfl) (fun _ _ _ _ _ h => h) rfl (by decide) (by kernel_rfl) (unhide I2) ?_
        generalize w1.drew = w2 at *
        refine heldF_take (v := ?_) (Or.inl ⟨by rfl, ?_⟩) ?_
        rotate_left 1
        · intro w' hSw
          try dsimp only at hSw
          go_simp
          try with_reducible rfl
        simp only [Act.put, List.setIfInBounds_toArray, List.set_cons_zero, List.set_cons_succ]
        refine heldF_skip ?_
        refine heldF_take (v := ?_) (Or.inl ⟨by rfl, ?_⟩) ?_
        rotate_left 1
        · intro w' hSw
          try dsimp only at hSw
          have s1 := scanCells hSw.sb
          go_simp
          try with_reducible rfl
        simp only [Act.put, List.setIfInBounds_toArray, List.set_cons_zero, List.set_cons_succ]
        refine heldF_skip ?_
        refine heldF_take (v := ?_) (Or.inl ⟨by rfl, ?_⟩) ?_
        rotate_left 1
        · intro w' hSw
          try dsimp only at hSw
          go_simp
          try with_reducible rfl
        simp only [Act.put, List.setIfInBounds_toArray, List.set_cons_zero, List.set_cons_succ]
        refine heldF_skip ?_
        refine heldF_skip ?_
        refine heldF_skip ?_
        refine heldF_nil ?_
        refine tailL_skip ?_
        refine tailL_step (fun K hK => ?_)
        go_simp
        refine (toIntS ao n cap zs w2 ((unhide HR).grown (unhide I2).grown) hn).mono ?_
        rintro e w3 ⟨rfl, o3, g3⟩
        have B3 : Hid (∀ k, Value.ownBlock _ = some k → w2.heap.size ≤ k ∧ k < w3.heap.size) := hide (fun k hk => o3.lt k hk)
        have Aa_03 := hide o3
        clear o3
        have Z3 := hide g3.size
        have I3 := hide ((unhide I2).new g3)
        clear I2 g3
        go_simp
        refine hK.out _ _ (.inr (unhide I3)) ?_
        clear hK K
        refine tailL_skip ?_
        refine tailL_step (fun K hK => ?_)
        go_simp
        refine (toScan1 xo m xc cs fr to hi lo w3 ((unhide HX).grown (unhide I3).grown) hm).mono ?_
        rintro e w4 ⟨vo4, vc4, rfl, o4, b4, g4⟩
        have B4 : Hid (∀ k, Value.ownBlock _ = some k → w3.heap.size ≤ k ∧ k < w4.heap.size) := hide (fun k hk => b4 k hk)
        have Ab_04 := hide o4
        clear o4
        clear b4
        have Z4 := hide g4.size
        have I4 := hide ((unhide I3).new g4)
        have Aa_4 := hide (own_grown (unhide Aa_03) g4)
        clear I3 g4 Aa_03
        go_simp
        refine hK.out _ _ (.inr (unhide I4)) ?_
        clear hK K
        refine tailL_skip ?_
        refine tailL_step (fun K hK => ?_)
        go_simp
        refine (toIntS bo n2 cap2 ls w4 ((unhide HR2).grown (unhide I4).grown) hn2).mono ?_
        rintro e w5 ⟨rfl, o5, g5⟩
        have B5 : Hid (∀ k, Value.ownBlock _ = some k → w4.heap.size ≤ k ∧ k < w5.heap.size) := hide (fun k hk => o5.lt k hk)
        have Ac_05 := hide o5
        clear o5
        have Z5 := hide g5.size
        have I5 := hide ((unhide I4).new g5)
        have Aa_5 := hide (own_grown (unhide Aa_4) g5)
        have Ab_5 := hide (own_grown (unhide Ab_04) g5)
        clear I4 g5 Aa_4 Ab_04
        go_simp
        refine hK.out _ _ (.inr (unhide I5)) ?_
        clear hK K
        refine tailL_step (fun K hK => ?_)
        go_simp
        have HC := specPutFirst _ n n zs w5 (own_rd (unhide Aa_5)) vo4 m vc4 ⟨cs, fr, to, hi, lo⟩ _ n2 n2 ls (own_rd (unhide Ac_05)) hn2 L HL
        dsimp only at HC
        refine HC.mono ?_
        rintro e w6 ⟨so6, sc6, rfl, o6, g6⟩
        clear HC
        have B6 : Hid (∀ k, Value.ownBlock _ = some k → w5.heap.size ≤ k ∧ k < w6.heap.size) := hide (fun k hk => o6.lt k hk)
        have W_06 := hide o6
        clear o6
        clear Aa_5
        clear Ab_5
        clear Ac_05
        have Z6 := hide g6.size
        have I6 := hide ((unhide I5).new g6)
        clear I5 g6
        go_simp
        refine hK.out _ _ (.inr (unhide I6)) ?_
        clear hK K
        refine tailL_step (fun K hK => ?_)
        go_simp
        go_simp
        refine hK.out _ _ (.inl rfl) ?_
        clear hK K
        refine tailL_nil (NoPanic.normal ?_)
        go_wp2_with fail
        refine (toIntS ao n cap zs w6 ((unhide HR).grown (unhide I6).grown) hn).mono ?_
        rintro e w7 ⟨rfl, o7, g7⟩
        have B7 : Hid (∀ k, Value.ownBlock _ = some k → w6.heap.size ≤ k ∧ k < w7.heap.size) := hide (fun k hk => o7.lt k hk)
        have Xa_07 := hide o7
        clear o7
        have Z7 := hide g7.size
        have I7 := hide ((unhide I6).new g7)
        have W_7 := hide (own_grown (unhide W_06) g7)
        clear I6 g7 W_06
        have c0 := scanCells (unhide I7).sb
        go_wp2_with fail
        refine (toScan1 xo m xc cs fr to hi lo w7 ((unhide HX).grown (unhide I7).grown) hm).mono ?_
        rintro e w8 ⟨vo8, vc8, rfl, o8, b8, g8⟩
        have B8 : Hid (∀ k, Value.ownBlock _ = some k → w7.heap.size ≤ k ∧ k < w8.heap.size) := hide (fun k hk => b8 k hk)
        have Xb_08 := hide o8
        clear o8
        clear b8
        have Z8 := hide g8.size
        have I8 := hide ((unhide I7).new g8)
        have W_8 := hide (own_grown (unhide W_7) g8)
        have Xa_8 := hide (own_grown (unhide Xa_07) g8)
        clear I7 g8 W_7 Xa_07
        clear c0
        have gb := World.grownBy_alloc w8 (.cells #[.slice vo8 m vc8, .int .i64 fr, .int .i64 to, .int .i64 hi, .int .i64 lo] 26) none
        have hxb := heap_alloc_new w8 (.cells #[.slice vo8 m vc8, .int .i64 fr, .int .i64 to, .int .i64 hi, .int .i64 lo] 26)
        have ZB := hide (show w8.heap.size < (w8.alloc (.cells #[.slice vo8 m vc8, .int .i64 fr, .int .i64 to, .int .i64 hi, .int .i64 lo] 26)).heap.size by simp)
        have Z9 := hide gb.size
        have I9 := hide ((unhide I8).new gb)
        have W_9 := hide (own_grown (unhide W_8) gb)
        have Xa_9 := hide (own_grown (unhide Xa_8) gb)
        have Xb_9 := hide (own_grown (unhide Xb_08) gb)
        clear I8 gb W_8 Xa_8 Xb_08
        have XB_n := hide hxb
        clear hxb
        go_wp2_with fail
        generalize (w8.alloc (.cells #[.slice vo8 m vc8, .int .i64 fr, .int .i64 to, .int .i64 hi, .int .i64 lo] 26)) = w9 at *
        refine (toIntS bo n2 cap2 ls w9 ((unhide HR2).grown (unhide I9).grown) hn2).mono ?_
        rintro e w10 ⟨rfl, o10, g10⟩
        have B10 : Hid (∀ k, Value.ownBlock _ = some k → w9.heap.size ≤ k ∧ k < w10.heap.size) := hide (fun k hk => o10.lt k hk)
        have Xc_010 := hide o10
        clear o10
        have Z10 := hide g10.size
        have I10 := hide ((unhide I9).new g10)
        have W_10 := hide (own_grown (unhide W_9) g10)
        have Xa_10 := hide (own_grown (unhide Xa_9) g10)
        have Xb_10 := hide (own_grown (unhide Xb_9) g10)
        have XB_10 := hide (grown_atT g10 (unhide XB_n) (by simp))
        clear I9 g10 W_9 Xa_9 Xb_9 XB_n
        have c0 := scanCells (unhide XB_10)
        go_wp2_with fail
        clear c0
        have HC := unhide HI _ n n zs w10 (own_rd (unhide Xa_10)) hbig vo8 m vc8 ⟨cs, fr, to, hi, lo⟩ (own_rd (unhide Xb_10)) hm _ n2 n2 ls (own_rd (unhide Xc_010)) hbig2 L HL
        dsimp only at HC
        refine HC.mono ?_
        rintro e w11 ⟨so11, sc11, rfl, o11, g11⟩
        clear HC
        have B11 : Hid (∀ k, Value.ownBlock _ = some k → w10.heap.size ≤ k ∧ k < w11.heap.size) := hide (fun k hk => o11.lt k hk)
        have Y_011 := hide o11
        clear o11
        have Z11 := hide g11.size
        have I11 := hide ((unhide I10).new g11)
        have W_11 := hide (own_grown (unhide W_10) g11)
        have Xa_11 := hide (own_grown (unhide Xa_10) g11)
        have Xb_11 := hide (own_grown (unhide Xb_10) g11)
        have Xc_11 := hide (own_grown (unhide Xc_010) g11)
        have XB_11 := hide (grown_atT g11 (unhide XB_10) (by simp))
        clear I10 g11 W_10 Xa_10 Xb_10 Xc_010 XB_10
        go_wp2_with fail
        refine (eqIntS _ _ L.length _ _ L w11 (own_rd (unhide Y_011)) (own_rd (unhide W_11)) hL).mono ?_
        rintro e w12 ⟨rfl, g12⟩
        have Z12 := hide g12.size
        have I12 := hide ((unhide I11).new g12)
        have W_12 := hide (own_grown (unhide W_11) g12)
        have Xa_12 := hide (own_grown (unhide Xa_11) g12)
        have Xb_12 := hide (own_grown (unhide Xb_11) g12)
        have Xc_12 := hide (own_grown (unhide Xc_11) g12)
        have Y_12 := hide (own_grown (unhide Y_011) g12)
        have XB_12 := hide (grown_atT g12 (unhide XB_11) (by simp))
        clear I11 g12 W_11 Xa_11 Xb_11 Xc_11 Y_011 XB_11
        go_wp2_with fail
        refine (toIntS ao n cap zs w12 ((unhide HR).grown (unhide I12).grown) hn).mono ?_
        rintro e w13 ⟨rfl, o13, g13⟩
        have B13 : Hid (∀ k, Value.ownBlock _ = some k → w12.heap.size ≤ k ∧ k < w13.heap.size) := hide (fun k hk => o13.lt k hk)
        have T_013 := hide o13
        clear o13
        have Z13 := hide g13.size
        have I13 := hide ((unhide I12).new g13)
        have W_13 := hide (own_grown (unhide W_12) g13)
        have Xa_13 := hide (own_grown (unhide Xa_12) g13)
        have Xb_13 := hide (own_grown (unhide Xb_12) g13)
        have Xc_13 := hide (own_grown (unhide Xc_12) g13)
        have Y_13 := hide (own_grown (unhide Y_12) g13)
        have XB_13 := hide (grown_atT g13 (unhide XB_12) (by simp))
        clear I12 g13 W_12 Xa_12 Xb_12 Xc_12 Y_12 XB_12
        go_wp2_with fail
        refine (eqIntS _ _ n _ _ zs w13 (own_rd (unhide Xa_13)) (own_rd (unhide T_013)) hn).mono ?_
        rintro e w14 ⟨rfl, g14⟩
        have Z14 := hide g14.size
        have I14 := hide ((unhide I13).new g14)
        have W_14 := hide (own_grown (unhide W_13) g14)
        have Xa_14 := hide (own_grown (unhide Xa_13) g14)
        have Xb_14 := hide (own_grown (unhide Xb_13) g14)
        have Xc_14 := hide (own_grown (unhide Xc_13) g14)
        have Y_14 := hide (own_grown (unhide Y_13) g14)
        have T_14 := hide (own_grown (unhide T_013) g14)
        have XB_14 := hide (grown_atT g14 (unhide XB_13) (by simp))
        clear I13 g14 W_13 Xa_13 Xb_13 Xc_13 Y_13 T_013 XB_13
        clear T_14
        go_wp2
        refine wp_region_noPanic ?_
        have gd := grown_drew (World.grownBy.refl w14 none)
        have Z15 := hide gd.size
        have I15 := hide ((unhide I14).new gd)
        have W_15 := hide (own_grown (unhide W_14) gd)
        have Xa_15 := hide (own_grown (unhide Xa_14) gd)
        have Xb_15 := hide (own_grown (unhide Xb_14) gd)
        have Xc_15 := hide (own_grown (unhide Xc_14) gd)
        have Y_15 := hide (own_grown (unhide Y_14) gd)
        have XB_15 := hide (grown_atT gd (unhide XB_14) (by simp))
        clear I14 gd W_14 Xa_14 Xb_14 Xc_14 Y_14 XB_14
        refine wp_region_tailL 20 (fun W => In1s w W #[.slice xo m xc, .int .i64 fr, .int .i64 to, .int .i64 hi, .int .i64 lo] ∧ W.heap[w8.heap.size]? = some (.cells #[.slice vo8 m vc8, .int .i64 fr, .int .i64 to, .int .i64 hi, .int .i64 lo] 26 (0, 0))) [true, true, false, false, false] (by kernel_rfl) (fun _ _ _ _ _ h => h) rfl (by decide) (by kernel_rfl) ⟨(unhide I15), unhide XB_15⟩ ?_
        generalize w14.drew = w15 at *
        refine heldF_take (v := ?_) (Or.inl ⟨by rfl, ?_⟩) ?_
        rotate_left 1
        · intro w' hSw
          try dsimp only at hSw
          have s1 := scanCells hSw.2
          go_simp
          try with_reducible rfl
        simp only [Act.put, List.setIfInBounds_toArray, List.set_cons_zero, List.set_cons_succ]
        refine heldF_take (v := ?_) (Or.inl ⟨by rfl, ?_⟩) ?_
        rotate_left 1
        · intro w' hSw
          try dsimp only at hSw
          have s1 := scanCells hSw.1.sb
          go_simp
          try with_reducible rfl
        simp only [Act.put, List.setIfInBounds_toArray, List.set_cons_zero, List.set_cons_succ]
        refine heldF_skip ?_
        refine heldF_skip ?_
        refine heldF_skip ?_
        refine heldF_nil ?_
        refine tailL_skip ?_
        refine tailL_skip ?_
        refine tailL_step (fun K hK => ?_)
        go_simp
        refine (toScan1 xo m xc cs fr to hi lo w15 ((unhide HX).grown (unhide I15).grown) hm).mono ?_
        rintro e w16 ⟨vo16, vc16, rfl, o16, b16, g16⟩
        have B16 : Hid (∀ k, Value.ownBlock _ = some k → w15.heap.size ≤ k ∧ k < w16.heap.size) := hide (fun k hk => b16 k hk)
        have T_016 := hide o16
        clear o16
        clear b16
        have Z16 := hide g16.size
        have I16 := hide ((unhide I15).new g16)
        have W_16 := hide (own_grown (unhide W_15) g16)
        have Xa_16 := hide (own_grown (unhide Xa_15) g16)
        have Xb_16 := hide (own_grown (unhide Xb_15) g16)
        have Xc_16 := hide (own_grown (unhide Xc_15) g16)
        have Y_16 := hide (own_grown (unhide Y_15) g16)
        have XB_16 := hide (grown_atT g16 (unhide XB_15) (by simp))
        clear I15 g16 W_15 Xa_15 Xb_15 Xc_15 Y_15 XB_15
        go_simp
        refine hK.out _ _ (.inr ⟨(unhide I16), unhide XB_16⟩) ?_
        clear hK K
        refine tailL_step (fun K hK => ?_)
        go_simp
        refine (eqScan1 vo8 vo16 m vc8 vc16 cs fr to hi lo w16 (own_rd (unhide Xb_16)) (own_rd (unhide T_016)) hm).mono ?_
        rintro e w17 ⟨rfl, g17⟩
        have Z17 := hide g17.size
        have I17 := hide ((unhide I16).new g17)
        have W_17 := hide (own_grown (unhide W_16) g17)
        have Xa_17 := hide (own_grown (unhide Xa_16) g17)
        have Xb_17 := hide (own_grown (unhide Xb_16) g17)
        have Xc_17 := hide (own_grown (unhide Xc_16) g17)
        have Y_17 := hide (own_grown (unhide Y_16) g17)
        have T_17 := hide (own_grown (unhide T_016) g17)
        have XB_17 := hide (grown_atT g17 (unhide XB_16) (by simp))
        clear I16 g17 W_16 Xa_16 Xb_16 Xc_16 Y_16 T_016 XB_16
        clear T_17
        go_simp
        refine hK.out _ _ (.inr ⟨(unhide I17), unhide XB_17⟩) ?_
        clear hK K
        refine tailL_step (fun K hK => ?_)
        go_simp
        go_simp
        refine hK.out _ _ (.inl rfl) ?_
        clear hK K
        refine tailL_nil (NoPanic.normal ?_)
        go_wp2_with fail
        refine (toIntS bo n2 cap2 ls w17 ((unhide HR2).grown (unhide I17).grown) hn2).mono ?_
        rintro e w18 ⟨rfl, o18, g18⟩
        have B18 : Hid (∀ k, Value.ownBlock _ = some k → w17.heap.size ≤ k ∧ k < w18.heap.size) := hide (fun k hk => o18.lt k hk)
        have T_018 := hide o18
        clear o18
        have Z18 := hide g18.size
        have I18 := hide ((unhide I17).new g18)
        have W_18 := hide (own_grown (unhide W_17) g18)
        have Xa_18 := hide (own_grown (unhide Xa_17) g18)
        have Xb_18 := hide (own_grown (unhide Xb_17) g18)
        have Xc_18 := hide (own_grown (unhide Xc_17) g18)
        have Y_18 := hide (own_grown (unhide Y_17) g18)
        have XB_18 := hide (grown_atT g18 (unhide XB_17) (by simp))
        clear I17 g18 W_17 Xa_17 Xb_17 Xc_17 Y_17 XB_17
        go_wp2_with fail
        refine (eqIntS _ _ n2 _ _ ls w18 (own_rd (unhide Xc_18)) (own_rd (unhide T_018)) hn2).mono ?_
        rintro e w19 ⟨rfl, g19⟩
        have Z19 := hide g19.size
        have I19 := hide ((unhide I18).new g19)
        have W_19 := hide (own_grown (unhide W_18) g19)
        have Xa_19 := hide (own_grown (unhide Xa_18) g19)
        have Xb_19 := hide (own_grown (unhide Xb_18) g19)
        have Xc_19 := hide (own_grown (unhide Xc_18) g19)
        have Y_19 := hide (own_grown (unhide Y_18) g19)
        have T_19 := hide (own_grown (unhide T_018) g19)
        have XB_19 := hide (grown_atT g19 (unhide XB_18) (by simp))
        clear I18 g19 W_18 Xa_18 Xb_18 Xc_18 Y_18 T_018 XB_18
        clear T_19
        go_wp2_with fail
        refine (markIntS _ _ _ _ _ 1 w19 (unhide Xa_19) hn (by omega) (by omega)).mono ?_
        rintro e w20 ⟨rfl, _, g20⟩
        have Z20 := hide g20.size
        have I20 := hide ((unhide I19).wrR g20 (fun g e => by have := unhide B7 g e; have := unhide Z0; have := unhide Z1; have := unhide Z2; have := unhide Z3; have := unhide Z4; have := unhide Z5; have := unhide Z6; have := unhide Z7; have := unhide Z8; have := unhide ZB; have := unhide Z9; have := unhide Z10; have := unhide Z11; have := unhide Z12; have := unhide Z13; have := unhide Z14; have := unhide Z15; have := unhide Z16; have := unhide Z17; have := unhide Z18; have := unhide Z19; have := unhide Z20; omega))
        have W_20 := hide (own_beneath (unhide W_19) g20 (fun g g' h h' => by have := unhide B6 g h; have := unhide B7 g' h'; have := unhide Z0; have := unhide Z1; have := unhide Z2; have := unhide Z3; have := unhide Z4; have := unhide Z5; have := unhide Z6; have := unhide Z7; have := unhide Z8; have := unhide ZB; have := unhide Z9; have := unhide Z10; have := unhide Z11; have := unhide Z12; have := unhide Z13; have := unhide Z14; have := unhide Z15; have := unhide Z16; have := unhide Z17; have := unhide Z18; have := unhide Z19; have := unhide Z20; omega))
        have Xb_20 := hide (own_beneath (unhide Xb_19) g20 (fun g g' h h' => by have := unhide B8 g h; have := unhide B7 g' h'; have := unhide Z0; have := unhide Z1; have := unhide Z2; have := unhide Z3; have := unhide Z4; have := unhide Z5; have := unhide Z6; have := unhide Z7; have := unhide Z8; have := unhide ZB; have := unhide Z9; have := unhide Z10; have := unhide Z11; have := unhide Z12; have := unhide Z13; have := unhide Z14; have := unhide Z15; have := unhide Z16; have := unhide Z17; have := unhide Z18; have := unhide Z19; have := unhide Z20; omega))
        have Xc_20 := hide (own_beneath (unhide Xc_19) g20 (fun g g' h h' => by have := unhide B10 g h; have := unhide B7 g' h'; have := unhide Z0; have := unhide Z1; have := unhide Z2; have := unhide Z3; have := unhide Z4; have := unhide Z5; have := unhide Z6; have := unhide Z7; have := unhide Z8; have := unhide ZB; have := unhide Z9; have := unhide Z10; have := unhide Z11; have := unhide Z12; have := unhide Z13; have := unhide Z14; have := unhide Z15; have := unhide Z16; have := unhide Z17; have := unhide Z18; have := unhide Z19; have := unhide Z20; omega))
        have Y_20 := hide (own_beneath (unhide Y_19) g20 (fun g g' h h' => by have := unhide B11 g h; have := unhide B7 g' h'; have := unhide Z0; have := unhide Z1; have := unhide Z2; have := unhide Z3; have := unhide Z4; have := unhide Z5; have := unhide Z6; have := unhide Z7; have := unhide Z8; have := unhide ZB; have := unhide Z9; have := unhide Z10; have := unhide Z11; have := unhide Z12; have := unhide Z13; have := unhide Z14; have := unhide Z15; have := unhide Z16; have := unhide Z17; have := unhide Z18; have := unhide Z19; have := unhide Z20; omega))
        have XB_20 := hide (grown_atT g20 (unhide XB_19) (fun e => by have := unhide B7 _ e; have := unhide Z0; have := unhide Z1; have := unhide Z2; have := unhide Z3; have := unhide Z4; have := unhide Z5; have := unhide Z6; have := unhide Z7; have := unhide Z8; have := unhide ZB; have := unhide Z9; have := unhide Z10; have := unhide Z11; have := unhide Z12; have := unhide Z13; have := unhide Z14; have := unhide Z15; have := unhide Z16; have := unhide Z17; have := unhide Z18; have := unhide Z19; have := unhide Z20; omega))
        clear I19 g20 W_19 Xa_19 Xb_19 Xc_19 Y_19 XB_19
        have c0 := scanCells (unhide XB_20)
        go_wp2_with fail
        refine (markScan1 _ m _ _ _ fr to hi lo (1 + (n : Int)) w20 (unhide Xb_20) hm4 (by omega) (by omega)).mono ?_
        rintro e w21 ⟨rfl, g21⟩
        clear c0
        have Z21 := hide g21.size
        have I21 := hide ((unhide I20).wrR g21 (fun g e => by have := unhide B8 g e; have := unhide Z0; have := unhide Z1; have := unhide Z2; have := unhide Z3; have := unhide Z4; have := unhide Z5; have := unhide Z6; have := unhide Z7; have := unhide Z8; have := unhide ZB; have := unhide Z9; have := unhide Z10; have := unhide Z11; have := unhide Z12; have := unhide Z13; have := unhide Z14; have := unhide Z15; have := unhide Z16; have := unhide Z17; have := unhide Z18; have := unhide Z19; have := unhide Z20; have := unhide Z21; omega))
        have W_21 := hide (own_beneath (unhide W_20) g21 (fun g g' h h' => by have := unhide B6 g h; have := unhide B8 g' h'; have := unhide Z0; have := unhide Z1; have := unhide Z2; have := unhide Z3; have := unhide Z4; have := unhide Z5; have := unhide Z6; have := unhide Z7; have := unhide Z8; have := unhide ZB; have := unhide Z9; have := unhide Z10; have := unhide Z11; have := unhide Z12; have := unhide Z13; have := unhide Z14; have := unhide Z15; have := unhide Z16; have := unhide Z17; have := unhide Z18; have := unhide Z19; have := unhide Z20; have := unhide Z21; omega))
        have Xc_21 := hide (own_beneath (unhide Xc_20) g21 (fun g g' h h' => by have := unhide B10 g h; have := unhide B8 g' h'; have := unhide Z0; have := unhide Z1; have := unhide Z2; have := unhide Z3; have := unhide Z4; have := unhide Z5; have := unhide Z6; have := unhide Z7; have := unhide Z8; have := unhide ZB; have := unhide Z9; have := unhide Z10; have := unhide Z11; have := unhide Z12; have := unhide Z13; have := unhide Z14; have := unhide Z15; have := unhide Z16; have := unhide Z17; have := unhide Z18; have := unhide Z19; have := unhide Z20; have := unhide Z21; omega))
        have Y_21 := hide (own_beneath (unhide Y_20) g21 (fun g g' h h' => by have := unhide B11 g h; have := unhide B8 g' h'; have := unhide Z0; have := unhide Z1; have := unhide Z2; have := unhide Z3; have := unhide Z4; have := unhide Z5; have := unhide Z6; have := unhide Z7; have := unhide Z8; have := unhide ZB; have := unhide Z9; have := unhide Z10; have := unhide Z11; have := unhide Z12; have := unhide Z13; have := unhide Z14; have := unhide Z15; have := unhide Z16; have := unhide Z17; have := unhide Z18; have := unhide Z19; have := unhide Z20; have := unhide Z21; omega))
        have XB_21 := hide (grown_atT g21 (unhide XB_20) (fun e => by have := unhide B8 _ e; have := unhide Z0; have := unhide Z1; have := unhide Z2; have := unhide Z3; have := unhide Z4; have := unhide Z5; have := unhide Z6; have := unhide Z7; have := unhide Z8; have := unhide ZB; have := unhide Z9; have := unhide Z10; have := unhide Z11; have := unhide Z12; have := unhide Z13; have := unhide Z14; have := unhide Z15; have := unhide Z16; have := unhide Z17; have := unhide Z18; have := unhide Z19; have := unhide Z20; have := unhide Z21; omega))
        clear I20 g21 W_20 Xb_20 Xc_20 Y_20 XB_20
        go_wp2_with fail
        refine (markIntS _ _ _ _ _ (1 + (n : Int) + (m : Int)) w21 (unhide Xc_21) hn2 (by omega) (by omega)).mono ?_
        rintro e w22 ⟨rfl, _, g22⟩
        have Z22 := hide g22.size
        have I22 := hide ((unhide I21).wrR g22 (fun g e => by have := unhide B10 g e; have := unhide Z0; have := unhide Z1; have := unhide Z2; have := unhide Z3; have := unhide Z4; have := unhide Z5; have := unhide Z6; have := unhide Z7; have := unhide Z8; have := unhide ZB; have := unhide Z9; have := unhide Z10; have := unhide Z11; have := unhide Z12; have := unhide Z13; have := unhide Z14; have := unhide Z15; have := unhide Z16; have := unhide Z17; have := unhide Z18; have := unhide Z19; have := unhide Z20; have := unhide Z21; have := unhide Z22; omega))
        have W_22 := hide (own_beneath (unhide W_21) g22 (fun g g' h h' => by have := unhide B6 g h; have := unhide B10 g' h'; have := unhide Z0; have := unhide Z1; have := unhide Z2; have := unhide Z3; have := unhide Z4; have := unhide Z5; have := unhide Z6; have := unhide Z7; have := unhide Z8; have := unhide ZB; have := unhide Z9; have := unhide Z10; have := unhide Z11; have := unhide Z12; have := unhide Z13; have := unhide Z14; have := unhide Z15; have := unhide Z16; have := unhide Z17; have := unhide Z18; have := unhide Z19; have := unhide Z20; have := unhide Z21; have := unhide Z22; omega))
        have Y_22 := hide (own_beneath (unhide Y_21) g22 (fun g g' h h' => by have := unhide B11 g h; have := unhide B10 g' h'; have := unhide Z0; have := unhide Z1; have := unhide Z2; have := unhide Z3; have := unhide Z4; have := unhide Z5; have := unhide Z6; have := unhide Z7; have := unhide Z8; have := unhide ZB; have := unhide Z9; have := unhide Z10; have := unhide Z11; have := unhide Z12; have := unhide Z13; have := unhide Z14; have := unhide Z15; have := unhide Z16; have := unhide Z17; have := unhide Z18; have := unhide Z19; have := unhide Z20; have := unhide Z21; have := unhide Z22; omega))
        have XB_22 := hide (grown_atT g22 (unhide XB_21) (fun e => by have := unhide B10 _ e; have := unhide Z0; have := unhide Z1; have := unhide Z2; have := unhide Z3; have := unhide Z4; have := unhide Z5; have := unhide Z6; have := unhide Z7; have := unhide Z8; have := unhide ZB; have := unhide Z9; have := unhide Z10; have := unhide Z11; have := unhide Z12; have := unhide Z13; have := unhide Z14; have := unhide Z15; have := unhide Z16; have := unhide Z17; have := unhide Z18; have := unhide Z19; have := unhide Z20; have := unhide Z21; have := unhide Z22; omega))
        clear I21 g22 W_21 Xc_21 Y_21 XB_21
        go_wp2_with fail
        refine (eqIntS _ _ L.length _ _ L w22 (own_rd (unhide Y_22)) (own_rd (unhide W_22)) hL).mono ?_
        rintro e w23 ⟨rfl, g23⟩
        have Z23 := hide g23.size
        have I23 := hide ((unhide I22).new g23)
        have W_23 := hide (own_grown (unhide W_22) g23)
        have Y_23 := hide (own_grown (unhide Y_22) g23)
        have XB_23 := hide (grown_atT g23 (unhide XB_22) (by simp))
        clear I22 g23 W_22 Y_22 XB_22
        go_wp2_with fail
        refine (markIntS _ _ _ _ _ 1 w23 (unhide Y_23) hL (by omega) (by omega)).mono ?_
        rintro e w24 ⟨rfl, o24, g24⟩
        have Z24 := hide g24.size
        have I24 := hide ((unhide I23).wrR g24 (fun g e => by have := unhide B11 g e; have := unhide Z0; have := unhide Z1; have := unhide Z2; have := unhide Z3; have := unhide Z4; have := unhide Z5; have := unhide Z6; have := unhide Z7; have := unhide Z8; have := unhide ZB; have := unhide Z9; have := unhide Z10; have := unhide Z11; have := unhide Z12; have := unhide Z13; have := unhide Z14; have := unhide Z15; have := unhide Z16; have := unhide Z17; have := unhide Z18; have := unhide Z19; have := unhide Z20; have := unhide Z21; have := unhide Z22; have := unhide Z23; have := unhide Z24; omega))
        have W_24 := hide (own_beneath (unhide W_23) g24 (fun g g' h h' => by have := unhide B6 g h; have := unhide B11 g' h'; have := unhide Z0; have := unhide Z1; have := unhide Z2; have := unhide Z3; have := unhide Z4; have := unhide Z5; have := unhide Z6; have := unhide Z7; have := unhide Z8; have := unhide ZB; have := unhide Z9; have := unhide Z10; have := unhide Z11; have := unhide Z12; have := unhide Z13; have := unhide Z14; have := unhide Z15; have := unhide Z16; have := unhide Z17; have := unhide Z18; have := unhide Z19; have := unhide Z20; have := unhide Z21; have := unhide Z22; have := unhide Z23; have := unhide Z24; omega))
        have XB_24 := hide (grown_atT g24 (unhide XB_23) (fun e => by have := unhide B11 _ e; have := unhide Z0; have := unhide Z1; have := unhide Z2; have := unhide Z3; have := unhide Z4; have := unhide Z5; have := unhide Z6; have := unhide Z7; have := unhide Z8; have := unhide ZB; have := unhide Z9; have := unhide Z10; have := unhide Z11; have := unhide Z12; have := unhide Z13; have := unhide Z14; have := unhide Z15; have := unhide Z16; have := unhide Z17; have := unhide Z18; have := unhide Z19; have := unhide Z20; have := unhide Z21; have := unhide Z22; have := unhide Z23; have := unhide Z24; omega))
        clear I23 g24 W_23 Y_23 XB_23
        have Y_m := hide o24
        clear o24
        go_wp2_with fail
        refine (heldIntS _ _ _ 1 w24 (own_rd (unhide Y_m)) hL (by omega) (by omega)).mono ?_
        rintro e w25 ⟨rfl, g25⟩
        have Z25 := hide g25.size
        have I25 := hide ((unhide I24).new g25)
        have W_25 := hide (own_grown (unhide W_24) g25)
        have Y_25 := hide (own_grown (unhide Y_m) g25)
        have XB_25 := hide (grown_atT g25 (unhide XB_24) (by simp))
        clear I24 g25 W_24 Y_m XB_24
        go_wp2
        refine wp_region_noPanic ?_
        have gd := grown_drew (World.grownBy.refl w25 none)
        have Z26 := hide gd.size
        have I26 := hide ((unhide I25).new gd)
        have W_26 := hide (own_grown (unhide W_25) gd)
        have Y_26 := hide (own_grown (unhide Y_25) gd)
        have XB_26 := hide (grown_atT gd (unhide XB_25) (by simp))
        clear I25 gd W_25 Y_25 XB_25
        refine wp_region_tailL 20 (fun W => In1s w W #[.slice xo m xc, .int .i64 fr, .int .i64 to, .int .i64 hi, .int .i64 lo]) [true, false, true, false, true, false, false, false] (by kernel_rfl) (fun _ _ _ _ _ h => h) rfl (by decide) (by kernel_rfl) (unhide I26) ?_
        generalize w25.drew = w26 at *
        refine heldF_take (v := ?_) (Or.inl ⟨by rfl, ?_⟩) ?_
        rotate_left 1
        · intro w' hSw
          try dsimp only at hSw
          go_simp
          try with_reducible rfl
        simp only [Act.put, List.setIfInBounds_toArray, List.set_cons_zero, List.set_cons_succ]
        refine heldF_skip ?_
        refine heldF_take (v := ?_) (Or.inl ⟨by rfl, ?_⟩) ?_
        rotate_left 1
        · intro w' hSw
          try dsimp only at hSw
          have s1 := scanCells hSw.sb
          go_simp
          try with_reducible rfl
        simp only [Act.put, List.setIfInBounds_toArray, List.set_cons_zero, List.set_cons_succ]
        refine heldF_skip ?_
        refine heldF_take (v := ?_) (Or.inl ⟨by rfl, ?_⟩) ?_
        rotate_left 1
        · intro w' hSw
          try dsimp only at hSw
          go_simp
          try with_reducible rfl
        simp only [Act.put, List.setIfInBounds_toArray, List.set_cons_zero, List.set_cons_succ]
        refine heldF_skip ?_
        refine heldF_skip ?_
        refine heldF_skip ?_
        refine heldF_nil ?_
        refine tailL_skip ?_
        refine tailL_step (fun K hK => ?_)
        go_simp
        refine (toIntS ao n cap zs w26 ((unhide HR).grown (unhide I26).grown) hn).mono ?_
        rintro e w27 ⟨rfl, o27, g27⟩
        have B27 : Hid (∀ k, Value.ownBlock _ = some k → w26.heap.size ≤ k ∧ k < w27.heap.size) := hide (fun k hk => o27.lt k hk)
        have Aa_027 := hide o27
        clear o27
        have Z27 := hide g27.size
        have I27 := hide ((unhide I26).new g27)
        have W_27 := hide (own_grown (unhide W_26) g27)
        have Y_27 := hide (own_grown (unhide Y_26) g27)
        have XB_27 := hide (grown_atT g27 (unhide XB_26) (by simp))
        clear I26 g27 W_26 Y_26 XB_26
        go_simp
        refine hK.out _ _ (.inr (unhide I27)) ?_
        clear hK K
        refine tailL_skip ?_
        refine tailL_step (fun K hK => ?_)
        go_simp
        refine (toScan1 xo m xc cs fr to hi lo w27 ((unhide HX).grown (unhide I27).grown) hm).mono ?_
        rintro e w28 ⟨vo28, vc28, rfl, o28, b28, g28⟩
        have B28 : Hid (∀ k, Value.ownBlock _ = some k → w27.heap.size ≤ k ∧ k < w28.heap.size) := hide (fun k hk => b28 k hk)
        have Ab_028 := hide o28
        clear o28
        clear b28
        have Z28 := hide g28.size
        have I28 := hide ((unhide I27).new g28)
        have W_28 := hide (own_grown (unhide W_27) g28)
        have Y_28 := hide (own_grown (unhide Y_27) g28)
        have Aa_28 := hide (own_grown (unhide Aa_027) g28)
        have XB_28 := hide (grown_atT g28 (unhide XB_27) (by simp))
        clear I27 g28 W_27 Y_27 Aa_027 XB_27
        go_simp
        refine hK.out _ _ (.inr (unhide I28)) ?_
        clear hK K
        refine tailL_skip ?_
        refine tailL_step (fun K hK => ?_)
        go_simp
        refine (toIntS bo n2 cap2 ls w28 ((unhide HR2).grown (unhide I28).grown) hn2).mono ?_
        rintro e w29 ⟨rfl, o29, g29⟩
        have B29 : Hid (∀ k, Value.ownBlock _ = some k → w28.heap.size ≤ k ∧ k < w29.heap.size) := hide (fun k hk => o29.lt k hk)
        have Ac_029 := hide o29
        clear o29
        have Z29 := hide g29.size
        have I29 := hide ((unhide I28).new g29)
        have W_29 := hide (own_grown (unhide W_28) g29)
        have Y_29 := hide (own_grown (unhide Y_28) g29)
        have Aa_29 := hide (own_grown (unhide Aa_28) g29)
        have Ab_29 := hide (own_grown (unhide Ab_028) g29)
        have XB_29 := hide (grown_atT g29 (unhide XB_28) (by simp))
        clear I28 g29 W_28 Y_28 Aa_28 Ab_028 XB_28
        go_simp
        refine hK.out _ _ (.inr (unhide I29)) ?_
        clear hK K
        refine tailL_step (fun K hK => ?_)
        go_simp
        have HC := unhide HI _ n n zs w29 (own_rd (unhide Aa_29)) hbig vo28 m vc28 ⟨cs, fr, to, hi, lo⟩ (own_rd (unhide Ab_29)) hm _ n2 n2 ls (own_rd (unhide Ac_029)) hbig2 L HL
        dsimp only at HC
        refine HC.mono ?_
        rintro e w30 ⟨so30, sc30, rfl, o30, g30⟩
        clear HC
        have B30 : Hid (∀ k, Value.ownBlock _ = some k → w29.heap.size ≤ k ∧ k < w30.heap.size) := hide (fun k hk => o30.lt k hk)
        have H_030 := hide o30
        clear o30
        clear Aa_29
        clear Ab_29
        clear Ac_029
        have Z30 := hide g30.size
        have I30 := hide ((unhide I29).new g30)
        have W_30 := hide (own_grown (unhide W_29) g30)
        have Y_30 := hide (own_grown (unhide Y_29) g30)
        have XB_30 := hide (grown_atT g30 (unhide XB_29) (by simp))
        clear I29 g30 W_29 Y_29 XB_29
        go_simp
        refine hK.out _ _ (.inr (unhide I30)) ?_
        clear hK K
        refine tailL_step (fun K hK => ?_)
        go_simp
        go_simp
        refine hK.out _ _ (.inl rfl) ?_
        clear hK K
        refine tailL_nil (NoPanic.normal ?_)
        go_wp2_with fail
        refine (eqIntS _ _ L.length _ _ L w30 (own_rd (unhide H_030)) (own_rd (unhide W_30)) hL).mono ?_
        rintro e w31 ⟨rfl, g31⟩
        have Z31 := hide g31.size
        have I31 := hide ((unhide I30).new g31)
        have W_31 := hide (own_grown (unhide W_30) g31)
        have Y_31 := hide (own_grown (unhide Y_30) g31)
        have H_31 := hide (own_grown (unhide H_030) g31)
        have XB_31 := hide (grown_atT g31 (unhide XB_30) (by simp))
        clear I30 g31 W_30 Y_30 H_030 XB_30
        clear H_31
        clear W_31
        go_wp2_with fail
        refine (heldIntS _ _ _ 1 w31 (own_rd (unhide Y_31)) hL (by omega) (by omega)).mono ?_
        rintro e w32 ⟨rfl, g32⟩
        have Z32 := hide g32.size
        have I32 := hide ((unhide I31).new g32)
        have Y_32 := hide (own_grown (unhide Y_31) g32)
        have XB_32 := hide (grown_atT g32 (unhide XB_31) (by simp))
        clear I31 g32 Y_31 XB_31
        go_wp2
        go_ret
        exact ⟨rfl, grown_below (unhide I32).grown⟩
      · have hr1 : decide (r < 0) = true := decide_eq_true (by have := unhide HSZ; rw [if_neg hm] at this; omega)
        go_enter Try.func5, Try.ntmps5
        go_wp2_with fail
        generalize (w.alloc (.cells #[.slice xo m xc, .int .i64 fr, .int .i64 to, .int .i64 hi, .int .i64 lo] 45)) = wx at *
        refine (unhide HS1 wx (unhide I0).grown).mono ?_
        rintro e w1 ⟨rfl, g1⟩
        have I1 := hide ((unhide I0).new g1)
        clear c0 g1
        go_wp2
        go_ret
        exact ⟨rfl, grown_below (unhide I1).grown⟩
    · have hdec2 : decide ((1048576 : Int) < (n2 : Int)) = true := by simp; omega
      go_enter Try.func5, Try.ntmps5
      go_wp2
      go_ret
      exact ⟨rfl, grown_below (unhide I0).grown⟩
  · have hdec : decide ((1048576 : Int) < (n : Int)) = true := by simp; omega
    go_enter Try.func5, Try.ntmps5
    go_wp2
    go_ret
    exact ⟨rfl, grown_below (unhide I0).grown⟩

end Go.Proofs.Ytfgglainjaplgaa

namespace Go.Proofs.Ytfgglainjaplgaa
open Go.RowKit Go.Shelf

theorem nearestLevel (n : Int) (w : World) :
    Calls Try.prog 70 #[.int .i64 n] w fun e w' => e = .returned (.int .i64 (min (max n (-16383)) 16383)) ∧ w = w' := by
  go_enter Try.func70, Try.ntmps70
  go_wp2
  all_goals
    go_ret
    refine ⟨ret_int ?_, rfl⟩
    first | omega | (split at * <;> omega)

set_option maxRecDepth 20000 in
set_option maxHeartbeats 400000 in
theorem fixLevels (ao : Option Addr) (n cap : Nat) (zs : List Int) (w : World) (hr : Rd .i64 w ao n zs) (b : Bool) (hb : Hid (levB (-16383) 16383 zs = b)) :
    Calls Try.prog 60 #[.slice ao n cap] w fun e w' => (∃ ys, e = .returned (.tuple #[.agg (sq ys), .bool b]) ∧ ys.length = 64 ∧ (n = 64 → ys = zs)) ∧ w.grownBy w' none := by
  by_cases h : n = 64
  · subst h
    obtain ⟨bb, off, rfl, _⟩ := hr.2 0 (by omega)
    have e : (zs == made (fun k => min (max (zs.getD k 0) (-16383)) 16383)) = b := by rw [clip_same (by omega) zs hr.1]; exact unhide hb
    have HZ := hide hr.1
    have HR := hide (hr.grown (World.grownBy_alloc w (.cells #[.int .i64 0, .int .i64 0, .int .i64 0, .int .i64 0, .int .i64 0, .int .i64 0, .int .i64 0, .int .i64 0, .int .i64 0, .int .i64 0, .int .i64 0, .int .i64 0, .int .i64 0, .int .i64 0, .int .i64 0, .int .i64 0, .int .i64 0, .int .i64 0, .int .i64 0, .int .i64 0, .int .i64 0, .int .i64 0, .int .i64 0, .int .i64 0, .int .i64 0, .int .i64 0, .int .i64 0, .int .i64 0, .int .i64 0, .int .i64 0, .int .i64 0, .int .i64 0, .int .i64 0, .int .i64 0, .int .i64 0, .int .i64 0, .int .i64 0, .int .i64 0, .int .i64 0, .int .i64 0, .int .i64 0, .int .i64 0, .int .i64 0, .int .i64 0, .int .i64 0, .int .i64 0, .int .i64 0, .int .i64 0, .int .i64 0, .int .i64 0, .int .i64 0, .int .i64 0, .int .i64 0, .int .i64 0, .int .i64 0, .int .i64 0, .int .i64 0, .int .i64 0, .int .i64 0, .int .i64 0, .int .i64 0, .int .i64 0, .int .i64 0, .int .i64 0] 73) none))
    clear hr
    go_enter Try.func60, Try.ntmps60
    go_wp2_with fail
    refine (fixSquare_yes bb off cap zs _ (unhide HR) (fun k => min (max (zs.getD k 0) (-16383)) 16383) 70 #[] (enters_of Try.func70 (by kernel_rfl) rfl) (fun k hk W hW => (nearestLevel (zs.getD k 0) W).mono ?_)).mono ?_
    · rintro e w' ⟨rfl, rfl⟩
      exact ⟨rfl, World.grownBy.refl _ _⟩
    · rintro e' w' ⟨rfl, g⟩
      rw [e]
      clear HR hb e
      have hB := (g.block w.heap.size (by simp) (by simp)).trans (heap_alloc_new w _)
      have HB := hide hB
      clear hB
      go_wp2_with (refine store_row rfl 73 _ _ rfl w.heap.size rfl (sq zs) rfl #[.int .i64 0, .int .i64 0, .int .i64 0, .int .i64 0, .int .i64 0, .int .i64 0, .int .i64 0, .int .i64 0, .int .i64 0, .int .i64 0, .int .i64 0, .int .i64 0, .int .i64 0, .int .i64 0, .int .i64 0, .int .i64 0, .int .i64 0, .int .i64 0, .int .i64 0, .int .i64 0, .int .i64 0, .int .i64 0, .int .i64 0, .int .i64 0, .int .i64 0, .int .i64 0, .int .i64 0, .int .i64 0, .int .i64 0, .int .i64 0, .int .i64 0, .int .i64 0, .int .i64 0, .int .i64 0, .int .i64 0, .int .i64 0, .int .i64 0, .int .i64 0, .int .i64 0, .int .i64 0, .int .i64 0, .int .i64 0, .int .i64 0, .int .i64 0, .int .i64 0, .int .i64 0, .int .i64 0, .int .i64 0, .int .i64 0, .int .i64 0, .int .i64 0, .int .i64 0, .int .i64 0, .int .i64 0, .int .i64 0, .int .i64 0, .int .i64 0, .int .i64 0, .int .i64 0, .int .i64 0, .int .i64 0, .int .i64 0, .int .i64 0, .int .i64 0] 73 (unhide HB) (by rw [sq_size, unhide HZ]; rfl) (by rw [sq_size, unhide HZ]; kernel_rfl) (sq_one _) ?_; intro w3 hB3 g3)
      refine bodyPost_ret (v := .tuple #[.agg (sq zs), .bool b]) ?_ rfl ⟨⟨_, rfl, (by first | exact unhide HZ | exact zs64_len), ?_⟩, ?_⟩
      · exact results_c2 (p := 2) (q := 3) (ty := 73) rfl _ _ _ w.heap.size rfl _ (run_loadVar_row w3 _ 73 73 _ (0, 0) _ hB3 Try.underlying73 rfl (by rw [sq_size, unhide HZ]; kernel_rfl))
      · intro hh; first | rfl | exact absurd hh h
      · exact grown_new (grown_new (World.grownBy_alloc _ _ _) g (fun g e => by simp at e)) g3 (fun g e => by simp at e; omega)
  · have hb' : b = false := by rw [← unhide hb]; simp [levB, hr.1, h]
    subst hb'
    clear hr hb
    go_enter Try.func60, Try.ntmps60
    go_wp2_with fail
    refine (fixSquare_no ao n cap _ _ h).mono ?_
    rintro e' w' ⟨rfl, g⟩
    have hB := (g.block w.heap.size (by simp) (by simp)).trans (heap_alloc_new w _)
    have HB := hide hB
    clear hB
    go_wp2_with (refine store_row rfl 73 _ _ rfl w.heap.size rfl (sq zs64) rfl #[.int .i64 0, .int .i64 0, .int .i64 0, .int .i64 0, .int .i64 0, .int .i64 0, .int .i64 0, .int .i64 0, .int .i64 0, .int .i64 0, .int .i64 0, .int .i64 0, .int .i64 0, .int .i64 0, .int .i64 0, .int .i64 0, .int .i64 0, .int .i64 0, .int .i64 0, .int .i64 0, .int .i64 0, .int .i64 0, .int .i64 0, .int .i64 0, .int .i64 0, .int .i64 0, .int .i64 0, .int .i64 0, .int .i64 0, .int .i64 0, .int .i64 0, .int .i64 0, .int .i64 0, .int .i64 0, .int .i64 0, .int .i64 0, .int .i64 0, .int .i64 0, .int .i64 0, .int .i64 0, .int .i64 0, .int .i64 0, .int .i64 0, .int .i64 0, .int .i64 0, .int .i64 0, .int .i64 0, .int .i64 0, .int .i64 0, .int .i64 0, .int .i64 0, .int .i64 0, .int .i64 0, .int .i64 0, .int .i64 0, .int .i64 0, .int .i64 0, .int .i64 0, .int .i64 0, .int .i64 0, .int .i64 0, .int .i64 0, .int .i64 0, .int .i64 0] 73 (unhide HB) (by rw [sq_size, zs64_len]; rfl) (by rw [sq_size, zs64_len]; kernel_rfl) (sq_one _) ?_; intro w3 hB3 g3)
    refine bodyPost_ret (v := .tuple #[.agg (sq zs64), .bool false]) ?_ rfl ⟨⟨_, rfl, (by first | exact unhide HZ | exact zs64_len), ?_⟩, ?_⟩
    · exact results_c2 (p := 2) (q := 3) (ty := 73) rfl _ _ _ w.heap.size rfl _ (run_loadVar_row w3 _ 73 73 _ (0, 0) _ hB3 Try.underlying73 rfl (by rw [sq_size, zs64_len]; kernel_rfl))
    · intro hh; first | rfl | exact absurd hh h
    · exact grown_new (grown_new (World.grownBy_alloc _ _ _) g (fun g e => by simp at e)) g3 (fun g e => by simp at e; omega)

end Go.Proofs.Ytfgglainjaplgaa
