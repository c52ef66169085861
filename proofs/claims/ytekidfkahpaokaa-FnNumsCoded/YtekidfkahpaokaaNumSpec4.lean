/-
  ReadNums, in the specification.
-/
import Derived.Test.YtekidfkahpaokaaNumSpec3
namespace Go.Proofs.Ytekidfkahpaokaa
open Go.RowKit

theorem append_in {w : World} {ops : Array Oper} {rest : List Oper} {o : Oper} {a : Act} {Q : Exit → Act → World → Prop} (hgd : o.guard = none) (s x : Operand)
    (ho : o.op = .call { callee := .builtin .append, args := #[s, x], argTypes := #[24, 24] })
    (base : Nat) (v : Value) (L : List Int) (hs : a.eval s = v) (hown : w.ownsRow base 3 1 v L.length (L.map (Value.int .i64))) (t : Int) (hx : a.eval x = .slice (some ⟨w.heap.size, 0, none⟩) 1 1) (hb : L.length ≤ 2000000) (hbase : base ≤ w.heap.size) (R : List Int) (hR : L ++ [t] = R)
    (hK : ∀ g cap w', w'.ownsRow base 3 1 (.slice (some ⟨g, 0, none⟩) R.length cap) R.length (R.map (Value.int .i64)) → w.grownBy w' v.ownBlock → (v.ownBlock = some g ∨ w.heap.size ≤ g) → wpList Try.prog ops Q rest (a.put o.dst (.slice (some ⟨g, 0, none⟩) R.length cap)) w') :
    wpList Try.prog ops Q (o :: rest) a (w.alloc (.cells #[.int .i64 t] 3)) := by
  subst hR
  obtain ⟨i0, hi, hz0, hz1, hz2⟩ := info_parts info_n9
  refine wpList_append_own_at _ hgd s x 24 ho base 3 i0 _ 1 8 Try.underlying24 hi hz0 hz1 hz2 rfl (by decide) v L.length _ hs (hown.alloc _) ⟨w.heap.size, 0, none⟩ 1 1 [.int .i64 t] hx rfl (World.news_of_block (cs := #[.int .i64 t]) (t := 3) (fr := (0, 0)) (heap_alloc_new w _)) (by intro u hu; simp at hu; subst hu; rfl) (by unfold maxLen; omega) (by omega) (by simp; omega) ?_
  intro v' w' h1 h2 _ h4
  rcases h1.2 with ⟨_, e0⟩ | ⟨g, cap, cur, e1, _⟩
  · omega
  subst e1
  have el : (L ++ [t]).length = L.length + 1 := by simp
  have hK2 := hK g cap w'
  rw [el] at hK2
  refine hK2 ?_ ?_ ?_
  · have e : (L ++ [t]).map (Value.int .i64) = L.map (Value.int .i64) ++ [.int .i64 t] := by simp
    rw [e]; exact h1
  · exact ⟨h2.os, h2.tape, h2.output, by have h := h2.size; simp at h; omega, fun k hk hr => (h2.block k (by simp; omega) hr).trans (Below.heap_alloc _ _ _ hk)⟩
  · rcases h4 with h4 | h4
    · exact .inl h4.symm
    · have e : g = (w.alloc (.cells #[.int .i64 t] 3)).heap.size := Option.some.inj h4
      exact .inr (by simp at e; omega)

/-- The row that is told, beside the reader. -/
structure Ti (B : World) (xb rb : Nat) (w : World) (v o : Value) (L : List Int) : Prop where
  own : w.ownsRow B.heap.size 3 1 o L.length (L.map (Value.int .i64))
  n1 : o.ownBlock ≠ some xb
  n2 : o.ownBlock ≠ some rb
  n3 : ∀ k, v.ownBlock = some k → o.ownBlock ≠ some k
theorem Ti.kept {B W w : World} {xb rb : Nat} {v o bs : Value} {L : List Int} {r : Rs} {lim : Nat} (h : Ti B xb rb W v o L) (hi : Ir B W xb rb w v bs r lim) : Ti B xb rb w v o L := by
  obtain ⟨P, h1, _, _⟩ := hi.ex
  exact ⟨own_sameAt h.own (fun g e => h1.fr g (h.own.lt g e).2 (fun e2 => h.n1 (by rw [e, e2])) (fun e2 => h.n2 (by rw [e, e2])) (fun e2 => h.n3 g e2 e)), h.n1, h.n2, h.n3⟩
theorem Ti.push {B W w w' : World} {xb rb : Nat} {v o bs : Value} {L R : List Int} {r : Rs} {lim g cap : Nat} (h : Ti B xb rb w v o L) (hi : Ir B W xb rb w v bs r lim) (o1 : w'.ownsRow B.heap.size 3 1 (.slice (some ⟨g, 0, none⟩) R.length cap) R.length (R.map (Value.int .i64))) (g1 : w.grownBy w' o.ownBlock) (hat : o.ownBlock = some g ∨ w.heap.size ≤ g) :
    Ti B xb rb w' v (.slice (some ⟨g, 0, none⟩) R.length cap) R ∧ Ir B w' xb rb w' v bs r lim := by
  obtain ⟨P, h1, h2, h3⟩ := hi.ex
  have hlt : rb < w.heap.size := (Array.getElem?_eq_some_iff.1 h1.box).1
  have hxl := h1.lk.lt
  refine ⟨⟨o1, fun e2 => ?_, fun e2 => ?_, fun k e1 e2 => ?_⟩, ⟨P, h1.aside g1 h.n1 h.n2 (fun k e => h.n3 k e) (fun k e => (h.own.lt k e).1), h2, h3⟩, hi.ok, hi.okd, hi.le⟩
  · have e3 : g = xb := Option.some.inj e2
    rcases hat with e4 | e4
    · rw [e3] at e4; exact h.n1 e4
    · omega
  · have e3 : g = rb := Option.some.inj e2
    rcases hat with e4 | e4
    · rw [e3] at e4; exact h.n2 e4
    · omega
  · have e3 : g = k := Option.some.inj e2
    rcases hat with e4 | e4
    · rw [e3] at e4; exact h.n3 k e1 e4
    · have := (h1.lk.own.lt k e1).2; omega

set_option maxRecDepth 20000 in
set_option maxHeartbeats 3200000 in
theorem specReadN (bo : Option Addr) (m bc : Nat) (bz : List Int) (n base : Int) (w : World) (hz : Rd .u8 w bo m bz) (hb : ∀ i, 0 ≤ bz.getD i 0 ∧ bz.getD i 0 ≤ 255) (R : List Int) (HRR : Hid (readNG bz n base = R)) :
    Calls Try.prog 22 #[.slice bo m bc, .int .i64 n, .int .i64 base] w fun e w' => ∃ co cc, e = .returned (.slice co R.length cc) ∧ w'.ownsRow w.heap.size 3 1 (.slice co R.length cc) R.length (R.map (Value.int .i64)) ∧ w.grownBy w' none := by
  have HZ := hide hz
  have HB := hide hb
  clear hz hb
  have HNIL : Hid (R = [] → (w.alloc (.cells #[] 3)).ownsRow w.heap.size 3 1 (.slice (some ⟨w.heap.size, 0, none⟩) R.length 0) R.length (R.map (Value.int .i64)) ∧ w.grownBy (w.alloc (.cells #[] 3)) none) := fun e => by
    subst e
    exact ⟨World.ownsRow_lit w #[] 0 (Nat.le_refl _) (by unfold maxLen; omega) rfl, World.grownBy_alloc _ _ _⟩
  obtain ⟨b1, HB1⟩ : ∃ b, Hid (decide (0 ≤ n ∧ n ≤ 4096) = b) := ⟨_, rfl⟩
  obtain ⟨b2, HB2⟩ : ∃ b, Hid (decide (0 ≤ base ∧ base ≤ 380) = b) := ⟨_, rfl⟩
  cases b1 with
  | false =>
    have e : R = [] := by rw [← unhide HRR, readNG, unhide HB1]; rfl
    have HF := hide (unhide HNIL e)
    subst e
    clear HNIL
    go_enter Try.func22, Try.ntmps22
    go_wp2_with fail
    refine (between n 0 4096 false HB1 _).mono ?_
    rintro e w1 ⟨rfl, rfl⟩
    go_wp2
    go_ret
    exact ⟨_, _, rfl, unhide HF⟩
  | true =>
    cases b2 with
    | false =>
      have e : R = [] := by rw [← unhide HRR, readNG, baseB, unhide HB1, unhide HB2]; rfl
      have HF := hide (unhide HNIL e)
      subst e
      clear HNIL
      go_enter Try.func22, Try.ntmps22
      go_wp2_with fail
      refine (between n 0 4096 true HB1 _).mono ?_
      rintro e w1 ⟨rfl, rfl⟩
      go_wp2_with fail
      refine (between base 0 380 false HB2 _).mono ?_
      rintro e w2 ⟨rfl, rfl⟩
      go_wp2
      go_ret
      exact ⟨_, _, rfl, unhide HF⟩
    | true =>
      have hn := of_decide_eq_true (unhide HB1)
      have hbs := of_decide_eq_true (unhide HB2)
      obtain ⟨N, rfl⟩ := Int.eq_ofNat_of_zero_le hn.1
      obtain ⟨bs, rfl⟩ := Int.eq_ofNat_of_zero_le hbs.1
      have HRE : Hid (R = [] ++ numsR (byteS bz) bs (N - 0) (startR bz)) := by
        unfold Hid
        rw [← unhide HRR, readNG, baseB, unhide HB1, unhide HB2]; rfl
      have HO0 : Hid ((w.alloc (.cells #[] 3)).ownsRow w.heap.size 3 1 (.slice (some ⟨w.heap.size, 0, none⟩) 0 0) 0 ([].map (Value.int .i64))) := World.ownsRow_lit w #[] 0 (Nat.le_refl _) (by unfold maxLen; omega) rfl
      have G0 : w.grownBy (w.alloc (.cells #[] 3)) none := World.grownBy_alloc _ _ _
      have HZ0 := hide ((unhide HZ).grown G0)
      have HG0 := hide G0
      have hsz : (w.alloc (.cells #[] 3)).heap.size = w.heap.size + 1 := by simp
      have HSZ := hide hsz
      have hbs2 : bs ≤ 380 := by omega
      have hN : N ≤ 4096 := by omega
      clear HNIL G0 hsz HRR
      go_enter Try.func22, Try.ntmps22
      go_wp2_with fail
      refine (between (N : Int) 0 4096 true HB1 _).mono ?_
      rintro e wa ⟨rfl, rfl⟩
      go_wp2_with fail
      refine (between (bs : Int) 0 380 true HB2 _).mono ?_
      rintro e wb ⟨rfl, rfl⟩
      obtain ⟨w0, HW0⟩ : ∃ w0, Hid (w.alloc (.cells #[] 3) = w0) := ⟨_, rfl⟩
      rw [unhide HW0] at HO0 HZ0 HG0 HSZ ⊢
      go_wp2_with fail
      refine (specReader bo m bc bz w0 (unhide HZ0) (unhide HB)).mono ?_
      rintro e w1 ⟨xb, rb, v, rfl, hw1⟩
      have hT1 : Ti w xb rb w1 v (.slice (some ⟨w.heap.size, 0, none⟩) 0 0) [] := by
        have hs := unhide HSZ
        refine ⟨own_grown (unhide HO0) hw1.lk.grown, fun e => ?_, fun e => ?_, fun k e1 e2 => ?_⟩
        · have e3 : w.heap.size = xb := Option.some.inj e
          have := hw1.lk.base; omega
        · have e3 : w.heap.size = rb := Option.some.inj e
          have := hw1.base; omega
        · have e3 : w.heap.size = k := Option.some.inj e2
          have := (hw1.lk.own.lt k e1).1; omega
      have hI1 : Ir w w1 xb rb w1 v (.slice bo m bc) (startR bz) (4 + 0) :=
        ⟨⟨List.replicate 400 2048, (hw1.below (unhide HG0)).here, by simp, by funext y; rw [like_zero]; rfl⟩, like0_ok, startD_ok (unhide HB), Nat.le_refl _⟩
      have HT1 := hide hT1
      have HI1 := hide hI1
      obtain ⟨r0, HR0⟩ : ∃ r0, Hid (startR bz = r0) := ⟨_, rfl⟩
      rw [unhide HR0] at HI1 HRE
      clear hw1 hT1 hI1 HO0 HZ0
      go_wp2
      go_loopw [7] (fun ov wr => ∃ (k : Nat) (oo : Option Addr) (oc : Nat) (L : List Int) (r : Rs), k ≤ N ∧ ov = .slice oo L.length oc ∧ Hid (L.length = k) ∧ Hid (Ti w xb rb wr v (.slice oo L.length oc) L) ∧ Hid (Ir w wr xb rb wr v (.slice bo m bc) r (4 + 40 * k)) ∧ Hid (R = L ++ numsR (byteS bz) bs (N - k) r)) (fun ov _ => match ov with | .slice _ l _ => N - l | _ => 0)
      case atStart => exact ⟨0, some ⟨w.heap.size, 0, none⟩, 0, [], r0, Nat.zero_le _, rfl, rfl, HT1, HI1, HRE⟩
      case round =>
        clear HT1 HI1 HRE
        obtain ⟨k, oo, oc, L, r, hk, rfl, hLk, hto, hir, hR⟩ := hrel
        by_cases hkn : k < N
        · have hd : decide (L.length < N) = true := decide_eq_true (by have := unhide hLk; omega)
          have HNM := hide (specNum bo m bc bz (unhide hir) (unhide HZ) (unhide HB) bs hbs2 (by omega))
          have hRR := unhide hR
          rw [show N - k = (N - (k + 1)) + 1 by omega, numsR] at hRR
          obtain ⟨x, HX⟩ : ∃ x, Hid ((numR (byteS bz) bs r).1 = x) := ⟨_, rfl⟩
          obtain ⟨r2, HR2⟩ : ∃ r2, Hid ((numR (byteS bz) bs r).2 = r2) := ⟨_, rfl⟩
          rw [unhide HX, unhide HR2] at HNM hRR
          obtain ⟨L2, HL2⟩ : ∃ L2, Hid (L ++ [x] = L2) := ⟨_, rfl⟩
          have HRN : Hid (R = L2 ++ numsR (byteS bz) bs (N - (k + 1)) r2) := by unfold Hid; rw [hRR, ← unhide HL2]; simp
          have HL2L : Hid (L2.length = k + 1) := by unfold Hid; rw [← unhide HL2, List.length_append, unhide hLk]; rfl
          have HLB : Hid (L.length ≤ 2000000) := by have := unhide hLk; unfold Hid; omega
          clear hRR hR
          go_wp2_with fail
          refine (unhide HNM).mono ?_
          rintro e w5 ⟨rfl, hw5⟩
          have HT5 := hide ((unhide hto).kept hw5)
          have HW5 := hide hw5
          have hgs : w.heap.size ≤ w5.heap.size := by obtain ⟨P, h1, _, _⟩ := hw5.ex; exact h1.lk.grown.size
          have HGS := hide hgs
          clear hw5 HNM hto hir hgs
          go_wp2_with (at_builtin; refine append_in rfl _ _ rfl w.heap.size (.slice oo L.length oc) L rfl (unhide HT5).own x rfl (unhide HLB) (unhide HGS) L2 (unhide HL2) ?_)
          intro g7 c7 w7 o7 g7w hat7
          have hpu := (unhide HT5).push (unhide HW5) o7 g7w hat7
          have HT7 := hide hpu.1
          have HI7 : Hid (Ir w w7 xb rb w7 v (.slice bo m bc) r2 (4 + 40 * (k + 1))) := hpu.2.lift (by omega)
          clear hpu o7 g7w hat7 HT5 HW5 HGS
          go_wp2
          go_roundw
          case rel => exact ⟨k + 1, some ⟨g7, 0, none⟩, c7, L2, r2, by omega, rfl, HL2L, HT7, HI7, HRN⟩
          case measure =>
            have h1 := unhide HL2L
            have h2 := unhide hLk
            show N - L2.length < N - L.length
            omega
        · obtain rfl : k = N := by omega
          have hd : decide (L.length < k) = false := decide_eq_false (by have := unhide hLk; omega)
          have hRR := unhide hR
          rw [Nat.sub_self, numsR, List.append_nil] at hRR
          obtain ⟨P, h1, _, _⟩ := (unhide hir).ex
          have HF : Hid (wr.ownsRow w.heap.size 3 1 (.slice oo R.length oc) R.length (R.map (Value.int .i64)) ∧ w.grownBy wr none) := by
            rw [hRR]
            exact ⟨(unhide hto).own, h1.lk.grown⟩
          have hRl : L.length = R.length := by rw [hRR]
          rw [hRl] at hd ⊢
          clear hR hto hir hRR hRl hLk h1
          go_wp2
          go_ret
          exact ⟨oo, oc, rfl, (unhide HF).1, (unhide HF).2⟩

end Go.Proofs.Ytekidfkahpaokaa
