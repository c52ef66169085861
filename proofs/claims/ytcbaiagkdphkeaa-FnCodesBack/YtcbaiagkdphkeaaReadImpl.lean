/-
  Symbols read from a text, in the program.
-/
import Derived.Test.YtcbaiagkdphkeaaNextImpl
import Derived.Test.YtcbaiagkdphkeaaReadPure
import Derived.Test.YtcbaiagkdphkeaaAppRdI
namespace Go.Proofs.Ytcbaiagkdphkeaa
open Go.RowKit

theorem syms_step8 {cs : List (Int × Int)} {zs acc : List Int} {p N k : Nat} {R : Option (List Int)} {s q : Nat} (h : R = (symsG cs zs p (N - k)).map (acc ++ ·)) (hk : k < N) (hs : symG cs zs p = some (s, q)) : R = (symsG cs zs q (N - (k + 1))).map ((acc ++ [(s : Int)]) ++ ·) := by
  have e : N - k = (N - (k + 1)) + 1 := by omega
  rw [e] at h
  unfold symsG at h
  rw [hs] at h
  rw [h]
  dsimp only
  cases symsG cs zs q (N - (k + 1)) with
  | none => rfl
  | some t => simp
theorem syms_none8 {cs : List (Int × Int)} {zs acc : List Int} {p N k : Nat} {R : Option (List Int)} (h : R = (symsG cs zs p (N - k)).map (acc ++ ·)) (hk : k < N) (hs : symG cs zs p = none) : R = none := by
  have e : N - k = (N - (k + 1)) + 1 := by omega
  rw [e] at h
  unfold symsG at h
  rw [hs] at h
  exact h
theorem syms_end8 {cs : List (Int × Int)} {zs acc : List Int} {p N : Nat} {R : Option (List Int)} (h : R = (symsG cs zs p (N - N)).map (acc ++ ·)) : R = some acc := by
  rw [Nat.sub_self] at h
  rw [h]
  unfold symsG
  simp

theorem append_i18 {w : World} {ops : Array Oper} {rest : List Oper} {o : Oper} {a : Act} {Q : Exit → Act → World → Prop} (hgd : o.guard = none) (s x : Operand)
    (ho : o.op = .call { callee := .builtin .append, args := #[s, x], argTypes := #[24, 24] })
    (base : Nat) (v : Value) (X : List Int) (hs : a.eval s = v) (hown : w.ownsRow base 3 1 v X.length (X.map (Value.int .i64))) (p : Int) (hx : a.eval x = .slice (some ⟨w.heap.size, 0, none⟩) 1 1)
    (hb : X.length ≤ 1000000) (hB : base ≤ w.heap.size) (R : List Int) (hR : X ++ [p] = R)
    (h : ∀ v' w', w'.ownsRow base 3 1 v' R.length (R.map (Value.int .i64)) → w.grownBy w' v.ownBlock → wpList Try.prog ops Q rest (a.put o.dst v') w') :
    wpList Try.prog ops Q (o :: rest) a (w.alloc (.cells #[.int .i64 p] 3)) := by
  subst hR
  obtain ⟨i0, hi, hz0, hz1, hz2⟩ := info_parts info_i9
  refine wpList_append_own _ hgd s x 24 ho base 3 i0 _ 1 8 Try.underlying24 hi hz0 hz1 hz2 rfl (by decide) v X.length _ hs (hown.alloc _) ⟨w.heap.size, 0, none⟩ 1 1 [.int .i64 p] hx rfl (World.news_of_block (cs := #[.int .i64 p]) (t := 3) (fr := (0, 0)) (heap_alloc_new w _)) (by intro u hu; simp at hu; subst hu; rfl) (by unfold maxLen; omega) (by omega) (by simp; omega) ?_
  intro v' w' h1 h2 _
  have hga : w.grownBy w' v.ownBlock := ⟨h2.os, h2.tape, h2.output, by have h := h2.size; simp at h; omega, fun k hk hr => (h2.block k (by simp; omega) hr).trans (Below.heap_alloc _ _ _ hk)⟩
  refine h v' w' ?_ hga
  rw [List.map_append, List.length_append]
  exact h1

set_option maxRecDepth 20000 in
set_option maxHeartbeats 3200000 in
theorem implCodeRead (ao : Option Addr) (n cap : Nat) (xs : List Int) (bo : Option Addr) (m bc : Nat) (zs : List Int) (N : Int) (w : World) (hr : Rd .i64 w ao n xs) (hz : Rd .u8 w bo m zs) (hb : ∀ i, 0 ≤ zs.getD i 0 ∧ zs.getD i 0 ≤ 255) (hn0 : n ≤ 1048576) (hm : m ≤ 1048576) :
    Calls Try.prog 27 #[.slice ao n cap, .slice bo m bc, .int .i64 N] w fun e w' => ∃ co cc, e = .returned (.tuple #[.slice co (readG xs zs N).length cc, .bool (readB xs zs N)]) ∧ w'.ownsRow w.heap.size 3 1 (.slice co (readG xs zs N).length cc) (readG xs zs N).length ((readG xs zs N).map (Value.int .i64)) ∧ w.grownBy w' none := by
  have hl := hr.1
  have HR := hide hr
  have HZ := hide hz
  have HB := hide hb
  have HLT := hide hz.lt
  clear hr hz hb
  obtain ⟨b, HLB⟩ : ∃ b, Hid (lensB xs = b) := ⟨_, rfl⟩
  obtain ⟨C, HC⟩ : ∃ C, Hid (codesG xs = C) := ⟨_, rfl⟩
  obtain ⟨R, HRO⟩ : ∃ R, Hid (readO xs zs N = R) := ⟨_, rfl⟩
  have hG : readG xs zs N = R.getD [] := by rw [← unhide HRO]; rfl
  have hBB : readB xs zs N = R.isSome := by rw [← unhide HRO]; rfl
  rw [hG, hBB]
  clear hG hBB
  have HNIL : Hid (∀ wz : World, w.grownBy wz none → wz.ownsRow w.heap.size 3 1 (.slice none 0 0) 0 [] ∧ w.grownBy wz none) := fun wz g => ⟨⟨rfl, .inl ⟨rfl, rfl⟩⟩, g⟩
  cases b with
  | false =>
    have hRn : R = none := by rw [← unhide HRO, readO, unhide HLB]; simp
    subst hRn
    go_enter Try.func27, Try.ntmps27
    go_wp2_with fail
    refine (implLensOk ao n cap xs w (unhide HR) hn0 false HLB).mono ?_
    rintro e w1 ⟨rfl, rfl⟩
    have HF := hide (unhide HNIL w1 (World.grownBy.refl _ _))
    go_wp2
    go_ret2
    exact ⟨none, 0, rfl, unhide HF⟩
  | true =>
    have hCl : C.length ≤ 256 := by
      rw [← unhide HC, codes_len (unhide HLB)]; exact (lens_parts (unhide HLB)).1
    have HCB : Hid (∀ s, s < C.length → (0 ≤ (C.getD s (0, 0)).1 ∧ (C.getD s (0, 0)).1 ≤ 1000000) ∧ 0 ≤ (C.getD s (0, 0)).2 ∧ (C.getD s (0, 0)).2 ≤ 1000000) := fun s hs => by
      rw [← unhide HC] at hs ⊢
      have hs2 : s < xs.length := by rw [← codes_len (unhide HLB)]; exact hs
      rw [codes_at (unhide HLB) s hs2]
      have h1 := (lens_parts (unhide HLB)).2.1 s hs2
      have h2 := code_fits (unhide HLB) hs2
      rw [code_len] at h2 ⊢
      have h3 : (2 : Int) ^ (xs.getD s 0).toNat ≤ 65536 := (pow_fit8 (by omega)).2
      omega
    have HFI : Hid (∀ l x : Int, 0 < l → bookF C C.length l x = findC C l x C.length) := fun l x h => by
      rw [← unhide HC]; exact book_find (unhide HLB) l x h
    by_cases hN : 0 ≤ N ∧ N ≤ 60000
    · obtain ⟨M, rfl⟩ := Int.eq_ofNat_of_zero_le hN.1
      have hM : M ≤ 60000 := by omega
      have HRS : Hid (R = (symsG C zs 0 (M - 0)).map ([] ++ ·)) := by
        unfold Hid
        rw [← unhide HRO, readO, unhide HLB, if_pos ⟨rfl, hN.1, hN.2⟩, unhide HC, Int.toNat_natCast, Nat.sub_zero]
        cases symsG C zs 0 M <;> simp
      have HD : Hid (decide (0 ≤ (M : Int) ∧ (M : Int) ≤ 60000) = true) := decide_eq_true hN
      obtain ⟨i0, hi, hz0, hz1, hz2⟩ := info_parts info_i9
      clear hN HRO hl
      go_enter Try.func27, Try.ntmps27
      go_wp2_with fail
      refine (implLensOk ao n cap xs w (unhide HR) hn0 true HLB).mono ?_
      rintro e wx ⟨rfl, rfl⟩
      go_wp2_with fail
      refine (inRange8 (M : Int) 0 60000 true HD _).mono ?_
      rintro e wy ⟨rfl, rfl⟩
      go_wp2_with fail
      refine (implCodesOf ao n cap xs wy (unhide HR) hn0).mono ?_
      rw [unhide HC]
      rintro e w1 ⟨v, rfl, o1, g1⟩
      obtain ⟨co, cc, rfl⟩ := own_form o1
      have HRC : Hid (RdF w1 co C.length C) := own_rdF o1
      have HG1 := hide g1
      clear o1 g1
      obtain ⟨cl, HCLn⟩ : ∃ cl, Hid (C.length = cl) := ⟨_, rfl⟩
      have HBO := hide (implBook co C.length cc C w1 (unhide HRC) hCl (unhide HCB))
      rw [unhide HCLn] at HBO ⊢
      go_wp2_with fail
      refine (unhide HBO).mono ?_
      rintro e w2 ⟨rfl, hbk2, g2⟩
      rw [← unhide HCLn] at hbk2
      obtain ⟨mb, HMB⟩ : ∃ mb, Hid (w1.heap.size = mb) := ⟨_, rfl⟩
      rw [unhide HMB] at hbk2 ⊢
      obtain ⟨w3, HW3⟩ : ∃ w3, Hid (w2.alloc (.cells #[.slice bo m bc, .int .i64 0] 69) = w3) := ⟨_, rfl⟩
      have g3 : w2.grownBy w3 none := by rw [← unhide HW3]; exact World.grownBy_alloc _ _ _
      obtain ⟨tb, HTB⟩ : ∃ tb, Hid (w2.heap.size = tb) := ⟨_, rfl⟩
      have hr3 : Rr w3 tb bo m bc 0 := by rw [← unhide HW3, ← unhide HTB]; exact heap_alloc_new w2 _
      have hmt : mb < tb := by rw [← unhide HTB]; exact hbk2.lt
      have HTL : Hid (wy.heap.size ≤ tb) := by rw [← unhide HTB]; exact Nat.le_trans (unhide HG1).size g2.size
      have HG3 := hide (grown_trans (unhide HG1) (grown_trans g2 g3))
      have HK3 := hide (hbk2.kept g3 (by simp))
      have HR3 := hide hr3
      have HTS : Hid (tb < w3.heap.size) := hr3.lt
      clear hbk2 g2 g3 hr3 HBO
      go_wp2_with (at_make; rw [unhide HW3]; refine wpList_make_own _ rfl _ _ 24 rfl w3.heap.size 3 i0 (.int .i64 0) 1 Try.underlying24 hi hz0 hz1 .i64 .i64 _ M rfl rfl (by omega) (by rw [hz2]; omega) (by unfold maxLen; omega) (Nat.le_refl _) ?_)
      intro w4 hown hgrow
      rw [unhide HTB]
      have HO4 : Hid (w4.ownsRow w3.heap.size 3 1 (.slice (some ⟨w3.heap.size, 0, none⟩) 0 M) ([] : List Int).length (([] : List Int).map (Value.int .i64))) := hown
      have HT4 := hide ((unhide HR3).grown hgrow)
      have HK4 := hide ((unhide HK3).kept hgrow (by simp))
      have HG4 := hide hgrow
      clear hown hgrow hi hz0 hz1 hz2 HR3 HK3 HW3
      go_wp2
      go_loopw [10, 30] (fun v kv wr => ∃ (acc : List Int) (k p : Nat), k ≤ M ∧ kv = .int .i64 k ∧ acc.length = k ∧ p ≤ 8 * m ∧ Hid (R = (symsG C zs p (M - k)).map (acc ++ ·)) ∧ Hid (Rr wr tb bo m bc p) ∧ Hid (Book wr mb C C.length) ∧ Hid (wr.ownsRow w3.heap.size 3 1 v acc.length (acc.map (Value.int .i64))) ∧ Hid (w3.grownBy wr (some tb))) (fun _ kv _ => M - (intOf kv).toNat)
      case atStart => exact ⟨[], 0, 0, Nat.zero_le _, rfl, rfl, Nat.zero_le _, HRS, HT4, HK4, HO4, grown_any (unhide HG4)⟩
      case round =>
        clear HRS HT4 HK4 HO4 HG4
        obtain ⟨acc, k, p, hk, rfl, hak, hp, hR, ht, hbk, ho, hg⟩ := hrel
        obtain ⟨fo, fc, rfl⟩ := own_form (unhide ho)
        have HAK := hide hak
        have HGW : Hid (wy.grownBy wr none) := grown_new (unhide HG3) (unhide hg) (fun g e => by have := Option.some.inj e; have := unhide HTL; omega)
        have HZr := hide ((unhide HZ).grown (unhide HGW))
        clear hak
        by_cases hkm : k < M
        · have hkI : (k : Int) < (M : Int) := by omega
          have HN1 : Hid (0 < m → ∀ b off, bo = some ⟨b, off, none⟩ → b ≠ tb) := fun h b off e => by have h1 := unhide HLT h b off e; have h2 := unhide HTL; omega
          obtain ⟨r, HRR⟩ : ∃ r, Hid (symG C zs p = r) := ⟨_, rfl⟩
          have HNX := hide (implBookNext mb tb bo m bc p zs C wr (unhide ht) (unhide HZr) (unhide HN1) (unhide HB) (unhide hbk) (by omega) (unhide HFI) (by omega) hp r HRR)
          have HRB : Hid ((Value.slice fo acc.length fc).ownBlock ≠ some tb) := fun e => by
            have h1 := ((unhide ho).lt tb e).1
            have h2 := unhide HTS
            omega
          have HRM : Hid ((Value.slice fo acc.length fc).ownBlock ≠ some mb) := fun e => by
            have h1 := ((unhide ho).lt mb e).1
            have h2 := unhide HTS
            omega
          obtain ⟨al, HAL⟩ : ∃ al, Hid (acc.length = al) := ⟨_, rfl⟩
          go_wp2_with fail
          refine (unhide HNX).mono ?_
          rintro e w5 ⟨s, q, ok, rfl, hok, hno, g5⟩
          have HG5 := hide (grown_trans (unhide hg) g5)
          have HGW5 : Hid (wy.grownBy w5 none) := grown_new (unhide HGW) g5 (fun g e => by have := Option.some.inj e; have := unhide HTL; omega)
          cases ok with
          | false =>
            have hrn := hno rfl
            have hR2 : R = none := syms_none8 (unhide hR) hkm (by rw [unhide HRR]; exact hrn)
            subst hR2
            have HF := hide (unhide HNIL w5 (unhide HGW5))
            clear hok hno g5 hR ho ht hbk HNX
            go_wp2
            go_ret2
            exact ⟨none, 0, rfl, unhide HF⟩
          | true =>
            obtain ⟨hrs, ht5, hq2, hsm⟩ := hok rfl
            have HR2 := hide (syms_step8 (unhide hR) hkm (by rw [unhide HRR]; exact hrs))
            have HO5 := hide (own_beneath (unhide ho) g5 (fun g g' h h' e2 => unhide HRB (by rw [h', ← e2]; exact h)))
            have HT5 := hide ht5
            have HK5 := hide ((unhide hbk).kept g5 (fun e => by have := Option.some.inj e; omega))
            obtain ⟨A2, HA2⟩ : ∃ A2, Hid (acc ++ [(s : Int)] = A2) := ⟨_, rfl⟩
            have HA2L : Hid (A2.length = k + 1) := by
              unfold Hid
              rw [← unhide HA2, List.length_append, unhide HAK]; rfl
            rw [unhide HA2] at HR2
            have hacl : acc.length ≤ 1000000 := by rw [unhide HAK]; omega
            have HACL := hide hacl
            clear hok hno g5 hR ho ht ht5 hrs hg HRR hbk HNX hacl
            go_wp2_with (at_builtin; refine append_i18 rfl _ _ rfl w3.heap.size (.slice fo acc.length fc) acc rfl (unhide HO5) (s : Int) rfl (unhide HACL) (unhide HG5).size A2 (unhide HA2) ?_)
            intro v7 w7 o7 g7
            obtain ⟨so7, sc7, rfl⟩ := own_form o7
            have HT7 : Hid (Rr w7 tb bo m bc q) := (g7.block _ (unhide HT5).lt (fun e => unhide HRB e.symm)).trans (unhide HT5)
            have HK7 := hide ((unhide HK5).kept g7 (fun e => unhide HRM e.symm))
            have HG7 : Hid (w3.grownBy w7 (some tb)) := by
              have h5 := unhide HG5
              refine ⟨g7.os.trans h5.os, g7.tape.trans h5.tape, g7.output.trans h5.output, Nat.le_trans h5.size g7.size, fun kk hkk hkt => ?_⟩
              have hne : some kk ≠ (Value.slice fo acc.length fc).ownBlock := fun e => by
                have := ((unhide HO5).lt kk e.symm).1
                omega
              exact (g7.block kk (Nat.lt_of_lt_of_le hkk h5.size) hne).trans (h5.block kk hkk hkt)
            have HO7 := hide o7
            clear o7 g7 HO5 HT5 HK5 HG5 HGW5
            go_wp2
            go_roundw
            case rel => exact ⟨A2, k + 1, q, by omega, by go_num, unhide HA2L, hq2, HR2, HT7, HK7, HO7, HG7⟩
            case measure => simp [intOf]; omega
        · obtain rfl : k = M := by omega
          have hR2 : R = some acc := syms_end8 (unhide hR)
          subst hR2
          have HF : Hid (wr.ownsRow wy.heap.size 3 1 (.slice fo acc.length fc) acc.length (acc.map (Value.int .i64)) ∧ wy.grownBy wr none) := ⟨own_base (unhide ho) (by have h1 := (unhide HG3).size; omega), unhide HGW⟩
          clear hR ho ht hbk
          go_wp2
          go_ret2
          exact ⟨fo, fc, rfl, unhide HF⟩
    · have hRn : R = none := by
        rw [← unhide HRO, readO, if_neg (fun h => hN h.2)]
      subst hRn
      have HD : Hid (decide (0 ≤ N ∧ N ≤ 60000) = false) := decide_eq_false hN
      go_enter Try.func27, Try.ntmps27
      go_wp2_with fail
      refine (implLensOk ao n cap xs w (unhide HR) hn0 true HLB).mono ?_
      rintro e w1 ⟨rfl, rfl⟩
      go_wp2_with fail
      refine (inRange8 N 0 60000 false HD _).mono ?_
      rintro e w2 ⟨rfl, rfl⟩
      have HF := hide (unhide HNIL w2 (World.grownBy.refl _ _))
      go_wp2
      go_ret2
      exact ⟨none, 0, rfl, unhide HF⟩

end Go.Proofs.Ytcbaiagkdphkeaa
