/-
  The walk of the specification's l02Next.
-/
import Derived.Test.YticecjodbhhcfaaDoorSegReadPure
import Derived.Test.YticecjodbhhcfaaDoorUnstuffSpec
import Derived.Test.YticecjodbhhcfaaDoorAppRd
namespace Go.Proofs.YticecjodbhhcfaaDoor
open Go.RowKit

/-- What l02Next answers. -/
def nxPost (at_ : Nat) (w : World) : Nx → Ending → World → Prop
  | .fault c a, e, w' => e = .returned (.tuple #[.agg #[.int .i64 0, .slice none 0 0], .int .i64 at_, .agg #[.int .i64 c, .int .i64 a], .bool false]) ∧ w.grownBy w' none
  | .fin a, e, w' => e = .returned (.tuple #[.agg #[.int .i64 0, .slice none 0 0], .int .i64 a, .agg #[.int .i64 0, .int .i64 0], .bool true]) ∧ w.grownBy w' none
  | .seg m d nx, e, w' => ∃ v, e = .returned (.tuple #[.agg #[.int .i64 m, v], .int .i64 nx, .agg #[.int .i64 0, .int .i64 0], .bool false]) ∧ w'.ownsRow w.heap.size 5 1 v d.length (d.map (Value.int .u8)) ∧ w.grownBy w' none

theorem own_set {w : World} {lo : Nat} {e : TypeId} {size : Nat} {v : Value} {n : Nat} {xs : List Value} (h : w.ownsRow lo e size v n xs) (b j : Nat) (u : Value) (hb : b < lo) : (w.setCell ⟨b, j, none⟩ u).ownsRow lo e size v n xs :=
  own_sameAt h (fun g e => Below.heap_setCell _ _ _ _ (by show g ≠ b; have := (h.lt g e).1; omega))
theorem grown_setNew {w w' : World} (h : w.grownBy w' none) (b j : Nat) (u : Value) (hb : w.heap.size ≤ b) : w.grownBy (w'.setCell ⟨b, j, none⟩ u) none := grown_new h (grown_set w' b j u) (fun g e => by simp at e; omega)
theorem grown_at {w w' : World} {g : Nat} {o : Obj} (h : w.grownBy w' none) (hg : w.heap[g]? = some o) : w'.heap[g]? = some o := by
  have hlt : g < w.heap.size := (Array.getElem?_eq_some_iff.1 hg).1
  exact (h.block g hlt (by simp)).trans hg
/-- Three rows that were made new. -/
theorem three_new (w : World) (o1 o2 o3 : Obj) : (((w.alloc o1).alloc o2).alloc o3).heap[w.heap.size]? = some o1 ∧ (((w.alloc o1).alloc o2).alloc o3).heap[w.heap.size + 1]? = some o2 ∧ (((w.alloc o1).alloc o2).alloc o3).heap[w.heap.size + 1 + 1]? = some o3 := by
  refine ⟨?_, ?_, ?_⟩
  · rw [Below.heap_alloc _ _ _ (by simp; omega), Below.heap_alloc _ _ _ (by simp)]; exact heap_alloc_new w o1
  · rw [Below.heap_alloc _ _ _ (by simp)]; have := heap_alloc_new (w.alloc o1) o2; simpa using this
  · have := heap_alloc_new ((w.alloc o1).alloc o2) o3; simpa using this
theorem two_of {w : World} {g : Nat} {a b : Value} {t : TypeId} (h : w.heap[g]? = some (.cells #[a, b] t (0, 0))) : w.cell? ⟨g, 0, none⟩ = some a ∧ w.cell? ⟨g, 1, none⟩ = some b ∧ w.frozen? ⟨g, 0, none⟩ = false ∧ w.frozen? ⟨g, 1, none⟩ = false :=
  ⟨by rw [cell_of_row w _ 0 _ _ (0, 0) h]; rfl, by rw [cell_of_row w _ 1 _ _ (0, 0) h]; rfl, frozen_of_row w _ 0 _ _ h, frozen_of_row w _ 1 _ _ h⟩

set_option maxRecDepth 8000 in
set_option maxHeartbeats 6400000 in
theorem specNextPart (b off n cap : Nat) (zs : List Int) (at_ : Nat) (was m : Int) (r : Nx) (w : World) (hr : Rd .u8 w (some ⟨b, off, none⟩) n zs) (hby : ∀ i, 0 ≤ zs.getD i 0 ∧ zs.getD i 0 ≤ 255) (hn : n ≤ 60000) (hcap : n ≤ cap) (h4 : at_ + 4 ≤ n)
    (hw : was = 0 ∨ was = 1 ∨ was = 2 ∨ was = 3) (hx : zs.getD at_ 0 = 255) (hmz : zs.getD (at_ + 1) 0 = m) (HKD : Hid (kindOf m = 1)) (HT : Hid (fitsK was 1 = true)) (hres : Hid (nextPart zs at_ = r)) :
    Calls Tryd.prog 29 #[.slice (some ⟨b, off, none⟩) n cap, .int .i64 at_, .int .i64 was, .bool false] w fun e w' => nxPost at_ w r e w' := by
  have G0 : w.grownBy (((w.alloc (.cells #[.int .i64 0, .slice none 0 0] 41)).alloc (.cells #[.int .i64 0, .int .i64 0] 30)).alloc (.cells #[.int .i64 0, .slice none 0 0] 41)) none := grown_alloc (grown_alloc (grown_alloc (World.grownBy.refl _ _) _) _) _
  have G3 : ∀ a b c d e f, w.grownBy (((w.alloc (.cells #[a, b] 41)).alloc (.cells #[c, d] 30)).alloc (.cells #[e, f] 41)) none := fun _ _ _ _ _ _ => grown_alloc (grown_alloc (grown_alloc (World.grownBy.refl _ _) _) _) _
  have HG0 := hide G0
  have HG3 := hide G3
  have HR := hide (hr.grown G0)
  have HW := hide hw
  have at' : ∀ i, i < n → (((w.alloc (.cells #[.int .i64 0, .slice none 0 0] 41)).alloc (.cells #[.int .i64 0, .int .i64 0] 30)).alloc (.cells #[.int .i64 0, .slice none 0 0] 41)).cell? ⟨b, off + i, none⟩ = some (.int .u8 (zs.getD i 0)) := by
    intro i hi
    obtain ⟨b', off', e', hcb⟩ := (hr.grown G0).2 i hi
    simp only [Option.some.injEq, Addr.mk.injEq] at e'
    rw [e'.1, e'.2.1]
    exact hcb
  have hl := hr.1
  clear hr hw G0 G3
  have hcb := at' at_ (by omega)
  have hcb1 := at' (at_ + 1) (by omega)
  have hcb2 := at' (at_ + 2) (by omega)
  have hcb3 := at' (at_ + 3) (by omega)
  have hx1 := hby (at_ + 1)
  have hx2 := hby (at_ + 2)
  have hx3 := hby (at_ + 3)
  have hcnt : 256 * zs.getD (at_ + 2) 0 + zs.getD (at_ + 3) 0 = (cnt2 zs at_ : Int) := by unfold cnt2; omega
  rw [hx] at hcb
  rw [hmz] at hcb1 hx1
  have hkb := (kind_bounds m).1 (unhide HKD)
  have hm0 : (m == 0) = false := by rw [beq_eq_false_iff_ne]; omega
  have hm254 : (m == 254) = false := by rw [beq_eq_false_iff_ne]; omega
  have hd0 : decide ((n : Int) ≤ (at_ : Int)) = false := decide_eq_false (by omega)
  have hd0' : decide (n ≤ at_) = false := decide_eq_false (by omega)
  have h1 : ¬ n ≤ at_ := by omega
  have h2' : at_ + 1 < n := by omega
  have hd1 : decide ((at_ : Int) + 1 < (n : Int)) = true := decide_eq_true (by omega)
  have hd2 : decide ((n : Int) ≤ (at_ : Int) + 1) = false := decide_eq_false (by omega)
  have hd4 : decide ((n : Int) < (at_ : Int) + 4) = false := decide_eq_false (by omega)
  have h4a : at_ + 2 < n := by omega
  have h4b : at_ + 3 < n := by omega
  have hres' := unhide hres
  unfold nextPart at hres'
  rw [if_neg (by omega), hmz] at hres'
  generalize zs.getD (at_ + 2) 0 = x2 at *
  generalize zs.getD (at_ + 3) 0 = x3 at *
  generalize hcc : cnt2 zs at_ = c at *
  have hcb' : c ≤ 65535 := by omega
  clear at' hx hmz hres hcc hby
  go_enter Tryd.func29, Tryd.ntmps29
  go_wp2_with fail
  refine (specKind m 1 _ HKD).mono ?_
  rintro e w1 ⟨rfl, rfl⟩
  go_wp2_with fail
  refine (specFits was 1 true _ (by simp) (unhide HW) HT).mono ?_
  rintro e w2 ⟨rfl, rfl⟩
  go_wp2
  go_quiet (fail)
  obtain ⟨n1, n2, n3⟩ := three_new w (.cells #[.int .i64 0, .slice none 0 0] 41) (.cells #[.int .i64 0, .int .i64 0] 30) (.cells #[.int .i64 0, .slice none 0 0] 41)
  have gq := grown_drewN (World.grownBy.refl (((w.alloc (.cells #[.int .i64 0, .slice none 0 0] 41)).alloc (.cells #[.int .i64 0, .int .i64 0] 30)).alloc (.cells #[.int .i64 0, .slice none 0 0] 41)) none) nq
  have HRQ := hide (rd_sub ((unhide HR).grown gq) (at_ + 4) c)
  have E1 := grown_at gq n1
  have E2 := grown_at gq n2
  have E3 := grown_at gq n3
  obtain ⟨r1, r2, r3, r4⟩ := two_of E3
  have G2 := grown_trans (unhide HG0) gq
  have hsz : ((((w.alloc (.cells #[.int .i64 0, .slice none 0 0] 41)).alloc (.cells #[.int .i64 0, .int .i64 0] 30)).alloc (.cells #[.int .i64 0, .slice none 0 0] 41)).drewN nq).heap.size = w.heap.size + 3 := by simp
  clear n1 n2 n3 hcb hcb1 hcb2 hcb3 HG0 HG3 HR gq
  generalize ((((w.alloc (.cells #[.int .i64 0, .slice none 0 0] 41)).alloc (.cells #[.int .i64 0, .int .i64 0] 30)).alloc (.cells #[.int .i64 0, .slice none 0 0] 41)).drewN nq) = wq at *
  have HQ : Hid (∀ (W : World) (b j : Nat) (u : Value), w.grownBy W none → w.heap.size ≤ b → w.grownBy (W.setCell ⟨b, j, none⟩ u) none) := fun W b j u h hb => grown_setNew h b j u hb
  have HE1 := hide E1
  have HE2 := hide E2
  have HSZ := hide hsz
  obtain ⟨p1, p2, p3, p4⟩ := two_of E1
  obtain ⟨q1, q2, q3, q4⟩ := two_of E2
  clear E1 E2 E3 hsz
  by_cases h5 : 20000 < c
  · rw [if_pos h5] at hres'
    subst hres'
    have hd5 : decide ((20000 : Int) < (c : Int)) = true := decide_eq_true (by omega)
    go_wp2
    exact bodyPost_ret (v := .tuple #[.agg #[.int .i64 0, .slice none 0 0], .int .i64 at_, .agg #[.int .i64 5, .int .i64 at_], .bool false]) (by simp [results, Tryd.results29, go_sem, p1, p2, q1, q2]) rfl
      ⟨rfl, unhide HQ _ _ _ _ (unhide HQ _ _ _ _ (unhide HQ _ _ _ _ (unhide HQ _ _ _ _ G2 (by omega)) (by omega)) (by omega)) (by omega)⟩
  · rw [if_neg h5] at hres'
    have hd5 : decide ((20000 : Int) < (c : Int)) = false := decide_eq_false (by omega)
    by_cases h6 : n < at_ + 4 + c
    · rw [if_pos (by omega)] at hres'
      subst hres'
      have hd6 : decide ((n : Int) < (at_ : Int) + 4 + (c : Int)) = true := decide_eq_true (by omega)
      go_wp2
      exact bodyPost_ret (v := .tuple #[.agg #[.int .i64 0, .slice none 0 0], .int .i64 at_, .agg #[.int .i64 3, .int .i64 n], .bool false]) (by simp [results, Tryd.results29, go_sem, p1, p2, q1, q2]) rfl
        ⟨by rw [hl], unhide HQ _ _ _ _ (unhide HQ _ _ _ _ (unhide HQ _ _ _ _ (unhide HQ _ _ _ _ G2 (by omega)) (by omega)) (by omega)) (by omega)⟩
    · rw [if_neg (by omega)] at hres'
      subst hres'
      have hd6 : decide ((n : Int) < (at_ : Int) + 4 + (c : Int)) = false := decide_eq_false (by omega)
      have o0 : (wq.alloc (.cells #[] 5)).ownsRow wq.heap.size 5 1 (.slice (some ⟨wq.heap.size, 0, none⟩) 0 0) 0 [] := World.ownsRow_lit wq #[] 0 (Nat.le_refl _) (by unfold maxLen; omega) rfl
      have g0 : wq.grownBy (wq.alloc (.cells #[] 5)) none := World.grownBy_alloc _ _ _
      have HRA := hide ((unhide HRQ (by omega) b off rfl).grown g0)
      have HR0 : Hid (cap = at_ + 4 → Rd .u8 (wq.alloc (.cells #[] 5)) (some ⟨b, off, none⟩) c ((zs.drop (at_ + 4)).take c)) := fun h => ⟨by have := (unhide HRA).1; exact this, fun i hi => absurd hi (by omega)⟩
      have hwq := unhide HSZ
      clear hcnt hx2 hx3
      have hcap7 : cap = at_ + 4 ∨ ¬ cap = at_ + 4 := by omega
      have HB : Hid (wq.heap.size = w.heap.size + 3) := hwq
      have HO0 := hide o0
      clear hwq HRQ
      rcases hcap7 with h7 | h7
      all_goals
        go_wp2_with (at_builtin; refine append_rd rfl _ _ rfl wq.heap.size _ _ _ rfl (unhide HO0) _ _ _ ((zs.drop (at_ + 4)).take c) rfl ?rd ?nil ?bb ?base ?_)
        case rd =>
          have ec : at_ + 4 + c - (at_ + 4) = c := by omega
          first | exact unhide HRA | (rw [ec]; exact unhide HRA) | exact unhide HR0 h7 | (rw [ec]; exact unhide HR0 h7)
        case bb => omega
        case base => simp
        case nil => intro h; cases h
        intro v3 w3 hown3 hgrow3
        have hgA : wq.grownBy w3 none := grown_new g0 hgrow3 (fun g e => ((unhide HO0).lt g e).1)
        have hG3 := grown_trans G2 hgA
        have hown4 : w3.ownsRow wq.heap.size 5 1 v3 ((zs.drop (at_ + 4)).take c).length (((zs.drop (at_ + 4)).take c).map (Value.int .u8)) := own_as hown3 (by have := (unhide HRA).1; omega) (by simp)
        obtain ⟨bo, bc, rfl⟩ := own_form hown4
        obtain ⟨s1, s2, s3, s4⟩ := two_of (grown_at hgA (unhide HE1))
        obtain ⟨t1, t2, t3, t4⟩ := two_of (grown_at hgA (unhide HE2))
        have HO4 := hide hown4
        clear hown3 hgrow3 hgA hown4 p1 p2 p3 p4 q1 q2 q3 q4 r1 r2 r3 r4 o0 g0 G2
        go_wp2
        have hwq := unhide HB
        exact bodyPost_ret (v := .tuple #[.agg #[.int .i64 m, .slice bo ((zs.drop (at_ + 4)).take c).length bc], .int .i64 ((at_ : Int) + 4 + c), .agg #[.int .i64 0, .int .i64 0], .bool false]) (by simp [results, Tryd.results29, go_sem, s1, s2, t1, t2, hl]) rfl
          ⟨_, by simp only [Int.natCast_add]; rfl, own_base (own_set (own_set (own_set (own_set (unhide HO4) _ _ _ (by omega)) _ _ _ (by omega)) _ _ _ (by omega)) _ _ _ (by omega)) (by omega),
            unhide HQ _ _ _ _ (unhide HQ _ _ _ _ (unhide HQ _ _ _ _ (unhide HQ _ _ _ _ hG3 (by omega)) (by omega)) (by omega)) (by omega)⟩

set_option maxRecDepth 8000 in
set_option maxHeartbeats 6400000 in
theorem specNext (ao : Option Addr) (n cap : Nat) (zs : List Int) (at_ : Nat) (was : Int) (many : Bool) (r : Nx) (w : World) (hr : Rd .u8 w ao n zs) (hby : ∀ i, 0 ≤ zs.getD i 0 ∧ zs.getD i 0 ≤ 255) (hn : n ≤ 60000) (hcap : n ≤ cap) (hat : at_ ≤ n)
    (hw : was = 0 ∨ was = 1 ∨ was = 2 ∨ was = 3) (hres : Hid (nextS zs at_ was many = r)) :
    Calls Tryd.prog 29 #[.slice ao n cap, .int .i64 at_, .int .i64 was, .bool many] w fun e w' => nxPost at_ w r e w' := by
  have HRW := hide hr
  have G0 : w.grownBy (((w.alloc (.cells #[.int .i64 0, .slice none 0 0] 41)).alloc (.cells #[.int .i64 0, .int .i64 0] 30)).alloc (.cells #[.int .i64 0, .slice none 0 0] 41)) none := grown_alloc (grown_alloc (grown_alloc (World.grownBy.refl _ _) _) _) _
  have G3 : ∀ a b c d e f, w.grownBy (((w.alloc (.cells #[a, b] 41)).alloc (.cells #[c, d] 30)).alloc (.cells #[e, f] 41)) none := fun _ _ _ _ _ _ => grown_alloc (grown_alloc (grown_alloc (World.grownBy.refl _ _) _) _) _
  have HG0 := hide G0
  have HG3 := hide G3
  have HR := hide (hr.grown G0)
  obtain ⟨hl, hc⟩ := hr.grown G0
  have HW := hide hw
  clear hr hw G0 G3
  have hres' := unhide hres
  unfold nextS at hres'
  clear hres
  by_cases h1 : n ≤ at_
  · rw [if_pos (by omega)] at hres'
    subst hres'
    have e1 : at_ = n := by omega
    subst e1
    have hd : decide ((at_ : Int) ≤ (at_ : Int)) = true := decide_eq_true (by omega)
    clear hc hby
    go_enter Tryd.func29, Tryd.ntmps29
    go_wp2
    refine bodyPost_ret (v := .tuple #[.agg #[.int .i64 0, .slice none 0 0], .int .i64 at_, .agg #[.int .i64 3, .int .i64 at_], .bool false]) (by simp [results, Tryd.results29, go_sem]) rfl ⟨by rw [hl], unhide HG3 _ _ _ _ _ _⟩
  · rw [if_neg (by omega)] at hres'
    have hd0 : decide ((n : Int) ≤ (at_ : Int)) = false := decide_eq_false (by omega)
    have hd0' : decide (n ≤ at_) = false := decide_eq_false (by omega)
    obtain ⟨b, off, rfl, hcb⟩ := hc at_ (by omega)
    by_cases hrun : isRun zs at_
    · rw [if_pos hrun] at hres'
      unfold nextRun at hres'
      have hu := unst_len (zs.drop at_)
      rw [List.length_drop] at hu
      have facts : (∃ x, (x != 255) = true ∧ zs.getD at_ 0 = x) ∨ (zs.getD at_ 0 = 255 ∧ at_ + 1 < n ∧ zs.getD (at_ + 1) 0 = 0) := by
        by_cases e : zs.getD at_ 0 = 255
        · right
          rcases hrun with h | h
          · exact absurd e h
          · exact ⟨e, by omega, h.2⟩
        · exact .inl ⟨_, by rw [bne_iff_ne]; exact e, rfl⟩
      have HC := hide hc
      clear hc hby hrun
      rcases facts with ⟨x, hxb, hx⟩ | ⟨hx, h2, hy⟩
      case' inl => rw [hx] at hcb; clear hx
      case' inr =>
        rw [hx] at hcb
        have hd1 : decide ((at_ : Int) + 1 < (n : Int)) = true := decide_eq_true (by omega)
        obtain ⟨b', off', e', hcb1⟩ := unhide HC (at_ + 1) h2
        simp only [Option.some.injEq, Addr.mk.injEq] at e'
        have ea := e'.1
        have eb := e'.2.1
        subst ea; subst eb
        rw [hy] at hcb1
        clear hx hy e'
      all_goals
        cases hf : fitsK was 3
        · rw [hf, if_pos rfl] at hres'
          subst hres'
          have HF := hide hf
          clear hf
          go_enter Tryd.func29, Tryd.ntmps29
          go_wp2_with fail
          refine (specFits was 3 false _ (by simp) (unhide HW) HF).mono ?_
          rintro e w1 ⟨rfl, rfl⟩
          go_wp2
          exact bodyPost_ret (v := .tuple #[.agg #[.int .i64 0, .slice none 0 0], .int .i64 at_, .agg #[.int .i64 4, .int .i64 at_], .bool false]) (by simp [results, Tryd.results29, go_sem]) rfl ⟨rfl, unhide HG3 _ _ _ _ _ _⟩
        · rw [hf, if_neg (by simp)] at hres'
          have HF := hide hf
          clear hf
          cases many
          · rw [if_neg (by simp)] at hres'
            have HRES := hide hres'
            clear hres'
            go_enter Tryd.func29, Tryd.ntmps29
            go_wp2_with fail
            refine (specFits was 3 true _ (by simp) (unhide HW) HF).mono ?_
            rintro e w1 ⟨rfl, rfl⟩
            go_wp2_with fail
            refine (specUnstuff _ (n - at_) (cap - at_) (zs.drop at_) _ (rd_tail (unhide HR) at_ (by omega) b off rfl) (by omega)).mono ?_
            rintro e w2 ⟨bo, bc, rfl, o2, g2⟩
            obtain ⟨n1, n2, n3⟩ := three_new w (.cells #[.int .i64 0, .slice none 0 0] 41) (.cells #[.int .i64 0, .int .i64 0] 30) (.cells #[.int .i64 0, .slice none 0 0] 41)
            obtain ⟨p1, p2, p3, p4⟩ := two_of (grown_at g2 n1)
            obtain ⟨q1, q2, q3, q4⟩ := two_of (grown_at g2 n2)
            obtain ⟨r1, r2, r3, r4⟩ := two_of (grown_at g2 n3)
            have G2 := grown_trans (unhide HG0) g2
            have hsz : (((w.alloc (.cells #[.int .i64 0, .slice none 0 0] 41)).alloc (.cells #[.int .i64 0, .int .i64 0] 30)).alloc (.cells #[.int .i64 0, .slice none 0 0] 41)).heap.size = w.heap.size + 3 := by simp
            rw [hsz] at o2
            have HO2 := hide o2
            have HRES' := unhide HRES
            clear n1 n2 n3 g2 o2 hsz hcb HRES
            generalize hud : (unst (zs.drop at_)).1 = ud at *
            generalize huc : (unst (zs.drop at_)).2 = uc at *
            clear hud huc
            have hq : ∀ (W : World) (b j : Nat) (u : Value), w.grownBy W none → w.heap.size ≤ b → w.grownBy (W.setCell ⟨b, j, none⟩ u) none := fun W b j u h hb => grown_setNew h b j u hb
            have HQ := hide hq
            clear hq
            by_cases hlong : 20000 < ud.length
            · rw [if_pos hlong] at HRES'
              subst HRES'
              have hdl : decide ((20000 : Int) < (ud.length : Int)) = true := decide_eq_true (by omega)
              go_wp2
              exact bodyPost_ret (v := .tuple #[.agg #[.int .i64 0, .slice none 0 0], .int .i64 at_, .agg #[.int .i64 5, .int .i64 at_], .bool false]) (by simp [results, Tryd.results29, go_sem, p1, p2, q1, q2]) rfl
                ⟨rfl, unhide HQ _ _ _ _ (unhide HQ _ _ _ _ (unhide HQ _ _ _ _ (unhide HQ _ _ _ _ G2 (by omega)) (by omega)) (by omega)) (by omega)⟩
            · rw [if_neg hlong] at HRES'
              subst HRES'
              have hdl : decide ((20000 : Int) < (ud.length : Int)) = false := decide_eq_false (by omega)
              go_wp2
              exact bodyPost_ret (v := .tuple #[.agg #[.int .i64 0, .slice bo ud.length bc], .int .i64 ((at_ : Int) + uc), .agg #[.int .i64 0, .int .i64 0], .bool false]) (by simp [results, Tryd.results29, go_sem, p1, p2, q1, q2]) rfl
                ⟨_, by rw [Int.natCast_add], own_base (own_set (own_set (own_set (own_set (unhide HO2) _ _ _ (by omega)) _ _ _ (by omega)) _ _ _ (by omega)) _ _ _ (by omega)) (by omega),
                  unhide HQ _ _ _ _ (unhide HQ _ _ _ _ (unhide HQ _ _ _ _ (unhide HQ _ _ _ _ G2 (by omega)) (by omega)) (by omega)) (by omega)⟩
          · rw [if_pos rfl] at hres'
            subst hres'
            go_enter Tryd.func29, Tryd.ntmps29
            go_wp2_with fail
            refine (specFits was 3 true _ (by simp) (unhide HW) HF).mono ?_
            rintro e w1 ⟨rfl, rfl⟩
            go_wp2
            exact bodyPost_ret (v := .tuple #[.agg #[.int .i64 0, .slice none 0 0], .int .i64 at_, .agg #[.int .i64 6, .int .i64 at_], .bool false]) (by simp [results, Tryd.results29, go_sem]) rfl ⟨rfl, unhide HG3 _ _ _ _ _ _⟩
    · rw [if_neg hrun] at hres'
      have hx : zs.getD at_ 0 = 255 := by unfold isRun at hrun; omega
      rw [hx] at hcb
      by_cases h2 : n ≤ at_ + 1
      · rw [if_pos (by omega)] at hres'
        subst hres'
        have hd1 : decide ((at_ : Int) + 1 < (n : Int)) = false := decide_eq_false (by omega)
        have hd2 : decide ((n : Int) ≤ (at_ : Int) + 1) = true := decide_eq_true (by omega)
        clear hc hby hrun hx h2
        go_enter Tryd.func29, Tryd.ntmps29
        go_wp2
        refine bodyPost_ret (v := .tuple #[.agg #[.int .i64 0, .slice none 0 0], .int .i64 at_, .agg #[.int .i64 3, .int .i64 n], .bool false]) (by simp [results, Tryd.results29, go_sem]) rfl ⟨by rw [hl], unhide HG3 _ _ _ _ _ _⟩
      · rw [if_neg (by omega)] at hres'
        have hd1 : decide ((at_ : Int) + 1 < (n : Int)) = true := decide_eq_true (by omega)
        have hd2 : decide ((n : Int) ≤ (at_ : Int) + 1) = false := decide_eq_false (by omega)
        have h2' : at_ + 1 < n := by omega
        obtain ⟨b', off', e', hcb1⟩ := hc (at_ + 1) h2'
        simp only [Option.some.injEq, Addr.mk.injEq] at e'
        have ea := e'.1
        have eb := e'.2.1
        subst ea; subst eb
        have hm := hby (at_ + 1)
        have hm0 : (zs.getD (at_ + 1) 0 == 0) = false := by
          rw [beq_eq_false_iff_ne]; intro e; exact hrun (.inr ⟨by omega, e⟩)
        have HBY := hide hby
        have HC := hide hc
        clear hc hby hrun e' h2
        unfold nextMk nextPart at hres'
        by_cases h3 : zs.getD (at_ + 1) 0 = 254
        · rw [if_pos h3] at hres'
          subst hres'
          rw [h3] at hcb1
          clear hm hm0 h3
          go_enter Tryd.func29, Tryd.ntmps29
          go_wp2
          exact bodyPost_ret (v := .tuple #[.agg #[.int .i64 0, .slice none 0 0], .int .i64 ((at_ : Int) + 2), .agg #[.int .i64 0, .int .i64 0], .bool true]) (by simp [results, Tryd.results29, go_sem]) rfl ⟨by rw [Int.natCast_add]; rfl, unhide HG3 _ _ _ _ _ _⟩
        · rw [if_neg h3] at hres'
          have hm254 : (zs.getD (at_ + 1) 0 == 254) = false := by rw [beq_eq_false_iff_ne]; exact h3
          have hkc := kindOf_cases (zs.getD (at_ + 1) 0)
          have hk3 : kindOf (zs.getD (at_ + 1) 0) ≠ 3 := by
            have : zs.getD (at_ + 1) 0 ≠ 0 := by rw [beq_eq_false_iff_ne] at hm0; exact hm0
            unfold kindOf; rw [if_neg this]
            repeat' split
            all_goals decide
          have HRES := hide hres'
          clear hres' h3
          generalize hmz : zs.getD (at_ + 1) 0 = m at *
          obtain ⟨kd, hkd⟩ : ∃ kd, kindOf m = kd := ⟨_, rfl⟩
          rw [hkd] at HRES hkc hk3
          have HKD := hide hkd
          clear hkd
          obtain ⟨t, ht⟩ : ∃ t, fitsK was kd = t := ⟨_, rfl⟩
          rw [ht] at HRES
          have HT := hide ht
          have hres' := unhide HRES
          clear ht HRES
          rcases hkc with rfl | rfl | rfl | rfl
          · rw [if_pos (.inl rfl)] at hres'
            subst hres'
            go_enter Tryd.func29, Tryd.ntmps29
            go_wp2_with fail
            refine (specKind m 0 _ HKD).mono ?_
            rintro e w1 ⟨rfl, rfl⟩
            go_wp2
            exact bodyPost_ret (v := .tuple #[.agg #[.int .i64 0, .slice none 0 0], .int .i64 at_, .agg #[.int .i64 4, .int .i64 at_], .bool false]) (by simp [results, Tryd.results29, go_sem]) rfl ⟨rfl, unhide HG3 _ _ _ _ _ _⟩
          · cases t
            · rw [if_pos (.inr rfl)] at hres'
              subst hres'
              go_enter Tryd.func29, Tryd.ntmps29
              go_wp2_with fail
              refine (specKind m 1 _ HKD).mono ?_
              rintro e w1 ⟨rfl, rfl⟩
              go_wp2_with fail
              refine (specFits was 1 false _ (by simp) (unhide HW) HT).mono ?_
              rintro e w2 ⟨rfl, rfl⟩
              go_wp2
              exact bodyPost_ret (v := .tuple #[.agg #[.int .i64 0, .slice none 0 0], .int .i64 at_, .agg #[.int .i64 4, .int .i64 at_], .bool false]) (by simp [results, Tryd.results29, go_sem]) rfl ⟨rfl, unhide HG3 _ _ _ _ _ _⟩
            · rw [if_neg (by simp)] at hres'
              cases many
              · rw [if_neg (by simp), if_neg (by decide)] at hres'
                by_cases h4 : n < at_ + 4
                · rw [if_pos (by omega)] at hres'
                  subst hres'
                  have hd4 : decide ((n : Int) < (at_ : Int) + 4) = true := decide_eq_true (by omega)
                  go_enter Tryd.func29, Tryd.ntmps29
                  go_wp2_with fail
                  refine (specKind m 1 _ HKD).mono ?_
                  rintro e w1 ⟨rfl, rfl⟩
                  go_wp2_with fail
                  refine (specFits was 1 true _ (by simp) (unhide HW) HT).mono ?_
                  rintro e w2 ⟨rfl, rfl⟩
                  go_wp2
                  exact bodyPost_ret (v := .tuple #[.agg #[.int .i64 0, .slice none 0 0], .int .i64 at_, .agg #[.int .i64 3, .int .i64 n], .bool false]) (by simp [results, Tryd.results29, go_sem]) rfl ⟨by rw [hl], unhide HG3 _ _ _ _ _ _⟩
                · rw [if_neg (by omega)] at hres'
                  exact specNextPart b off n cap zs at_ was m r w (unhide HRW) (unhide HBY) hn hcap (by omega) (unhide HW) hx hmz HKD HT (by unfold Hid nextPart; rw [if_neg (by omega), hmz]; exact hres')
              · rw [if_pos rfl] at hres'
                subst hres'
                go_enter Tryd.func29, Tryd.ntmps29
                go_wp2_with fail
                refine (specKind m 1 _ HKD).mono ?_
                rintro e w1 ⟨rfl, rfl⟩
                go_wp2_with fail
                refine (specFits was 1 true _ (by simp) (unhide HW) HT).mono ?_
                rintro e w2 ⟨rfl, rfl⟩
                go_wp2
                exact bodyPost_ret (v := .tuple #[.agg #[.int .i64 0, .slice none 0 0], .int .i64 at_, .agg #[.int .i64 6, .int .i64 at_], .bool false]) (by simp [results, Tryd.results29, go_sem]) rfl ⟨rfl, unhide HG3 _ _ _ _ _ _⟩
          · cases t
            · rw [if_pos (.inr rfl)] at hres'
              subst hres'
              go_enter Tryd.func29, Tryd.ntmps29
              go_wp2_with fail
              refine (specKind m 2 _ HKD).mono ?_
              rintro e w1 ⟨rfl, rfl⟩
              go_wp2_with fail
              refine (specFits was 2 false _ (by simp) (unhide HW) HT).mono ?_
              rintro e w2 ⟨rfl, rfl⟩
              go_wp2
              exact bodyPost_ret (v := .tuple #[.agg #[.int .i64 0, .slice none 0 0], .int .i64 at_, .agg #[.int .i64 4, .int .i64 at_], .bool false]) (by simp [results, Tryd.results29, go_sem]) rfl ⟨rfl, unhide HG3 _ _ _ _ _ _⟩
            · rw [if_neg (by simp)] at hres'
              cases many
              · rw [if_neg (by simp), if_pos rfl] at hres'
                subst hres'
                go_enter Tryd.func29, Tryd.ntmps29
                go_wp2_with fail
                refine (specKind m 2 _ HKD).mono ?_
                rintro e w1 ⟨rfl, rfl⟩
                go_wp2_with fail
                refine (specFits was 2 true _ (by simp) (unhide HW) HT).mono ?_
                rintro e w2 ⟨rfl, rfl⟩
                go_wp2
                exact bodyPost_ret (v := .tuple #[.agg #[.int .i64 m, .slice none 0 0], .int .i64 ((at_ : Int) + 2), .agg #[.int .i64 0, .int .i64 0], .bool false]) (by simp [results, Tryd.results29, go_sem]) rfl ⟨_, by rw [Int.natCast_add]; rfl, World.ownsRow_nil _ _ _ _, unhide HG3 _ _ _ _ _ _⟩
              · rw [if_pos rfl] at hres'
                subst hres'
                go_enter Tryd.func29, Tryd.ntmps29
                go_wp2_with fail
                refine (specKind m 2 _ HKD).mono ?_
                rintro e w1 ⟨rfl, rfl⟩
                go_wp2_with fail
                refine (specFits was 2 true _ (by simp) (unhide HW) HT).mono ?_
                rintro e w2 ⟨rfl, rfl⟩
                go_wp2
                exact bodyPost_ret (v := .tuple #[.agg #[.int .i64 0, .slice none 0 0], .int .i64 at_, .agg #[.int .i64 6, .int .i64 at_], .bool false]) (by simp [results, Tryd.results29, go_sem]) rfl ⟨rfl, unhide HG3 _ _ _ _ _ _⟩
          · exact absurd rfl hk3

end Go.Proofs.YticecjodbhhcfaaDoor
