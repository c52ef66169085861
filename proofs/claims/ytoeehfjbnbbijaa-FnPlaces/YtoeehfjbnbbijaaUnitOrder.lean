/-
  The order of units, as the function behind a range loop hands it out.
-/
import Derived.Test.YtoeehfjbnbbijaaPlaces
import Derived.Test.YtoeehfjbnbbijaaRangeOwn2
import Derived.Test.YtoeehfjbnbbijaaGeoUnits
namespace Go.Proofs.Ytoeehfjbnbbijaa
open Go.RowKit Go.Shelf

attribute [local go_sem] Oper.semAt_some

theorem load_rowIn {F : Fence} {n : Nat} {P : Program} {ops : Array Oper} {rest : List Oper} {op : Oper} {a : Act} {w : World} {Q : Exit → Act → World → Prop} (hw : Region.wanted op (yielded ops a.tmps) = true) (ty : TypeId) (x : Operand) (ho : op.op = .load ty x)
    (b : Nat) (hx : a.eval x = .pointer (some ⟨b, 0, none⟩)) (X : Array Value) (t : TypeId) (hb : w.heap[b]? = some (.cells X t (0, 0))) (d : TypeDesc)
    (hu : P.underlying ty = some d) (hd : (match d with | .struct _ | .array _ _ => true | _ => false) = true) (hi : (P.info? ty).map (·.size) = some X.size)
    (h : wpListIn F n P ops Q rest (a.put op.dst (.agg X)) w) : wpListIn F n P ops Q (op :: rest) a w :=
  BigFrame.wpListIn_want hw fun K hK => by
    refine ⟨fun f hf => ?_, ?_⟩
    · simp [Oper.about, ho] at hf
    · rw [Oper.semAt_eq _ _ _ (by simp [ho]), exec_load_row ty x ho b hx X t hb d hu hd hi]
      exact hK _ _ h

/-- The units' places, spot by spot. -/
def unitAt (C : Nat → Nat → Int) (cs : List Int) (x : Nat × Nat) : List Pl := iTo C cs x.1 x.2 cs.length
theorem kTo_flat (C : Nat → Nat → Int) (cs : List Int) (r : Nat) : ∀ k, (kTo C cs r k).flatten = (sCol r k).flatMap (unitAt C cs)
  | 0 => rfl
  | k + 1 => by simp [kTo, sCol, kTo_flat C cs r k, unitAt]
theorem rTo_flat (C : Nat → Nat → Int) (cs : List Int) (W : Nat) : ∀ r, (rTo C cs W r).flatten = (sTo W r).flatMap (unitAt C cs)
  | 0 => rfl
  | r + 1 => by simp [rTo, sTo, rTo_flat C cs W r, kTo_flat]

theorem iTo_pre (C : Nat → Nat → Int) (cs : List Int) (r k : Nat) {i j : Nat} (h : i ≤ j) : iTo C cs r k i <+: iTo C cs r k j := by
  induction j with
  | zero => obtain rfl : i = 0 := by omega
            exact List.prefix_refl _
  | succ j ih =>
    by_cases e : i = j + 1
    · subst e; exact List.prefix_refl _
    · exact (ih (by omega)).trans (List.prefix_append _ _)

set_option maxRecDepth 100000 in
set_option maxHeartbeats 6400000 in
theorem unit_gives (Bx Bs : Nat) (X : Array Value) (p wd ht rs : Int) (n : Nat) (C : Nat → Nat → Int) (hX : Fx X p wd ht rs n C) (hg : Geo wd ht n C (mostA 1 C 1 n) (mostA 1 C 2 n)) (cb coff m ccap : Nat) (cs : List Int) (hc : compsTo n cs m = true) (hml : cs.length = m)
    (uw uh : Nat) (HU : Hid (upI wd (8 * mostA 1 C 1 n) = (uw : Int))) (HV : Hid (upI ht (8 * mostA 1 C 2 n) = (uh : Int))) (huw : uw ≤ 256) (huh : uh ≤ 256) (O : Nat → Prop) (w : World)
    (bx : w.heap[Bx]? = some (.cells X 80 (0, 0))) (bs : w.heap[Bs]? = some (.cells #[.slice (some ⟨cb, coff, none⟩) m ccap] 29 (0, 0))) (hr : ∀ i, i < m → w.cell? ⟨cb, coff + i, none⟩ = some (.int .i64 (cs.getD i 0)))
    (hOx : ¬ O Bx) (hOs : ¬ O Bs) (hOc : ¬ O cb) (hcb : cb < w.heap.size) :
    Gives Try.prog 89 #[.pointer (some ⟨Bx, 0, none⟩), .pointer (some ⟨Bs, 0, none⟩)] (fun x : Pl => #[.agg #[.int .i64 x.1, .int .i64 x.2.1, .int .i64 x.2.2]]) (rTo C cs uw uh).flatten O w := by
  intro q l J W hW hOb hl hOl hwl hJ hY h0
  have lx : Bx < w.heap.size := (Array.getElem?_eq_some_iff.1 bx).1
  have ls : Bs < w.heap.size := (Array.getElem?_eq_some_iff.1 bs).1
  have hsW := hW.size
  have bxW := (hW.block Bx lx hOx).trans bx
  have bsW := (hW.block Bs ls hOs).trans bs
  have hsX : X.size = 21 := hX.size
  have hrW : ∀ i, i < m → W.cell? ⟨cb, coff + i, none⟩ = some (.int .i64 (cs.getD i 0)) := fun i hi => by
    have h := hr i hi
    unfold World.cell? at h ⊢
    rw [hW.block cb hcb hOc]
    exact h
  obtain ⟨W1, hW1⟩ : ∃ W1, W.alloc (.cells #[.func (.yield l) #[] #[]] 116) = W1 := ⟨_, rfl⟩
  have g1 : W.grownBy W1 none := by rw [← hW1]; exact World.grownBy_alloc _ _ _
  have s1 : W1.heap.size = W.heap.size + 1 := by rw [← hW1]; simp
  have by1 : W1.heap[W.heap.size]? = some (.cells #[.func (.yield l) #[] #[]] 116 (0, 0)) := by rw [← hW1]; exact heap_alloc_new _ _
  have bx1 := (g1.block Bx (by omega) (by simp)).trans bxW
  have HW1 := hide hW1
  clear hW1
  have HX := hide hX
  have HGE := hide hg
  clear hX hg
  refine callsIn_of_wp_marks Try.func89 rfl trivial ?_ rfl
  refine wpIn_wide.2 ?_
  simp only [Try.ntmps89, List.size_toArray, List.length_cons, List.length_nil, Nat.reduceAdd, Nat.reduceSub, Array.replicate_succ, Array.replicate_zero, List.push_toArray, List.append_toArray, List.nil_append, List.cons_append]
  go_wp2_with (rw [unhide HW1]; refine wpList_load_row rfl 80 _ rfl Bx rfl X 80 bx1 _ Try.underlying80 rfl (by rw [hsX]; kernel_rfl) ?_)
  refine (units X p wd ht rs n C (unhide HX) _ _ (unhide HGE) (uw : Int) (uh : Int) HU HV W1).mono ?_
  rintro e W2 ⟨rfl, g2⟩
  have s2 := g2.size
  have g12 := grown_trans g1 g2
  have by2 := (g2.block W.heap.size (by omega) (by simp)).trans by1
  clear HW1 by1 g1 g2 bx1
  go_wp2_with fail
  refine (callsIn_wide.1 (spots_in Fence.wide 0 trivial rfl _ _ _)).mono ?_
  rintro e w' ⟨rfl, rfl⟩
  obtain ⟨W3, hW3⟩ : ∃ W3, W2.alloc (.cells #[.int .i64 (uw : Int), .int .i64 (uh : Int)] 98) = W3 := ⟨_, rfl⟩
  have g3 : W.grownBy W3 none := by rw [← hW3]; exact grown_alloc g12 _
  have s3 : W3.heap.size = W2.heap.size + 1 := by rw [← hW3]; simp
  have ba3 : W3.heap[W2.heap.size]? = some (.cells #[.int .i64 (uw : Int), .int .i64 (uh : Int)] 98 (0, 0)) := by rw [← hW3]; exact heap_alloc_new _ _
  have by3 : W3.heap[W.heap.size]? = some (.cells #[.func (.yield l) #[] #[]] 116 (0, 0)) := by rw [← hW3]; exact (Below.heap_alloc _ _ _ (by omega)).trans by2
  rw [hW3]
  clear hW3 by2 g12
  have hOin : ∀ k, (O k ∨ k = l) → k < W3.heap.size := fun k e => by
    rcases e with e | e
    · have := hOb k e; omega
    · omega
  have hOnew : ∀ k, (O k ∨ k = l) → k < W.heap.size := fun k e => by
    rcases e with e | e
    · exact hOb k e
    · omega
  have B3 : ∀ O', But O' W W3 := fun O' => But.of_grown g3 (fun g e => by cases e)
  have loc : LocalJ (fun k => O k ∨ k = l) (fun (pre : List (Nat × Nat)) W' => J (pre.flatMap (unitAt C cs)) W') := fun pre A B h hk => hJ _ A B h hk
  have hn4 := (unhide HGE).n4
  have hmn := compsTo_len hc
  have HC := hide hc
  have HY := hide hY
  clear hc hY
  go_wp2
  refine (wpIn_wide (n := 0)).1 ?_
  refine rangeFunc_gives2 (gf := 93) (lb := #[.pointer (some ⟨W2.heap.size, 0, none⟩)]) rfl (enters_of Try.func93 (by kernel_rfl) rfl) hOin
    (spots_gives W2.heap.size uw uh (by omega) (by omega) _ W3 ba3 (fun e => by have := hOnew _ e; omega)) (fun _ => rfl) _ loc (hJ _ _ _ h0 (fun k hk => (B3 (fun _ => False)).block k (hOnew k hk) (fun e => e)))
    (fun _ x a' _ => a' = { tmps := #[.func (.yield l) #[] #[], .pointer (some ⟨Bx, 0, none⟩), .pointer (some ⟨Bs, 0, none⟩), .pointer (some ⟨W.heap.size, 0, none⟩), .int .i64 (x.1 : Int), .int .i64 (x.2 : Int), undef, undef, undef, undef, .agg X, .agg #[.int .i64 (uw : Int), .int .i64 (uh : Int)], .func (.func 93) #[] #[.pointer (some ⟨W2.heap.size, 0, none⟩)], .int .i64 (x.1 : Int), .int .i64 (x.2 : Int), undef, undef, undef, undef, undef, undef, undef, undef, undef, undef, undef, undef, undef, undef, undef, undef, undef, undef, undef, undef, undef, undef, undef, undef, undef, undef], defers := [] }) (fun _ _ _ _ _ h _ => h) ?assign ?body ?done
  case assign =>
    intro l' mm x Wa hla hlb K hK
    gi_wp2
    exact hK _ _ rfl (World.grownBy.refl _ _)
  case body =>
    intro l' mm pre x a' Wa hA hi hb hlen hrec hwl'
    subst hA
    obtain ⟨r0, hr0⟩ := hrec
    have hxm : x ∈ sTo uw uh := hlen.subset (by simp)
    obtain ⟨hx1, hx2⟩ := sTo_mem hxm
    have hbW : But (fun k => O k ∨ k = l) W Wa := (B3 _).trans hb
    have hsA := hb.size
    have hNx : ¬ (O Bx ∨ Bx = l) := fun e => by rcases e with e | e; exact hOx e; omega
    have hNs : ¬ (O Bs ∨ Bs = l) := fun e => by rcases e with e | e; exact hOs e; omega
    have hNc : ¬ (O cb ∨ cb = l) := fun e => by rcases e with e | e; exact hOc e; omega
    have hNy : ¬ (O W.heap.size ∨ W.heap.size = l) := fun e => by have := hOnew _ e; omega
    have hNl : ¬ (O l' ∨ l' = l) := fun e => by have := hOnew _ e; omega
    have HBX : Hid (∀ Wk, But (fun k => O k ∨ k = l) Wa Wk → Wk.heap[Bx]? = some (.cells X 80 (0, 0))) := fun Wk h => ((hbW.trans h).block Bx (by omega) hNx).trans bxW
    have HBY : Hid (∀ Wk, But (fun k => O k ∨ k = l) Wa Wk → Wk.heap[W.heap.size]? = some (.cells #[.func (.yield l) #[] #[]] 116 (0, 0))) := fun Wk h => ((hb.trans h).block W.heap.size (by omega) hNy).trans by3
    have HBC : Hid (∀ Wk, But (fun k => O k ∨ k = l) Wa Wk → ∀ i, i < m → Wk.cell? ⟨cb, coff + i, none⟩ = some (.int .i64 (cs.getD i 0))) := fun Wk h i hi => by
      have h1 := hrW i hi
      unfold World.cell? at h1 ⊢
      rw [(hbW.trans h).block cb (by omega) hNc]
      exact h1
    have ks : Wa.cell? ⟨Bs, 0, none⟩ = some (.slice (some ⟨cb, coff, none⟩) m ccap) := by rw [cell_of_row Wa _ 0 _ _ (0, 0) ((hbW.block Bs (by omega) hNs).trans bsW)]; rfl
    have HTOT : Hid (∀ zs, zs <+: unitAt C cs x → pre.flatMap (unitAt C cs) ++ zs <+: (rTo C cs uw uh).flatten) := fun zs h => by
      rw [rTo_flat]
      obtain ⟨rest, hrest⟩ := hlen
      rw [← hrest]
      simp only [List.flatMap_append, List.flatMap_cons, List.flatMap_nil, List.append_nil, List.append_assoc]
      exact (List.prefix_append_right_inj _).2 (h.trans (List.prefix_append _ _))
    have HI0 : Hid (J (pre.flatMap (unitAt C cs) ++ iTo C cs x.1 x.2 0) Wa) := by unfold Hid; rw [iTo, List.append_nil]; exact hi
    gi_wp2
    gi_loopw [17] (fun i wr => ∃ k : Nat, k ≤ m ∧ i = .int .i64 k ∧ Hid (J (pre.flatMap (unitAt C cs) ++ iTo C cs x.1 x.2 k) wr) ∧ Hid (But (fun k => O k ∨ k = l) Wa wr)) (fun i _ => m - (intOf i).toNat)
    case atStart => exact ⟨0, Nat.zero_le _, rfl, HI0, But.refl _ _⟩
    case round =>
      obtain ⟨k, hk, rfl, hJk, hbk⟩ := hrel
      by_cases hlt : k < m
      · obtain ⟨⟨hc0, hc1⟩, _⟩ := compsTo_at (unhide HC) k hlt
        obtain ⟨c, hcE⟩ := Int.eq_ofNat_of_zero_le hc0
        have hcn : c < n := by omega
        have kc := unhide HBC wr (unhide hbk) k hlt
        rw [hcE] at kc
        have hkI : (k : Int) < (m : Int) := by omega
        have bxk := unhide HBX wr (unhide hbk)
        gi_wp2_with (refine load_rowIn rfl 80 _ rfl Bx rfl X 80 bxk _ Try.underlying80 rfl (by rw [hsX]; kernel_rfl) ?_)
        refine ⟨trivial, (fun h => by simp [Fence.wide] at h), ?_⟩
        refine (CallsIn.inRound l' (callsIn_wide.2 (shares X p wd ht rs n C (unhide HX) c (by omega) wr))).mono ?_
        rintro e w4 ⟨rfl, g4⟩
        have hcH := (unhide HGE).ch c hcn
        have hcV := (unhide HGE).cv c hcn
        obtain ⟨H, hH⟩ := Int.eq_ofNat_of_zero_le (show 0 ≤ C c 1 by omega)
        obtain ⟨V, hV⟩ := Int.eq_ofNat_of_zero_le (show 0 ≤ C c 2 by omega)
        have m1 : 0 ≤ (x.1 : Int) * (V : Int) ∧ (x.1 : Int) * (V : Int) ≤ 1024 := by
          constructor
          · exact Int.mul_nonneg (by omega) (by omega)
          · have h1 : (x.1 : Int) * (V : Int) ≤ 256 * 4 := Int.mul_le_mul (by omega) (by omega) (by omega) (by omega)
            omega
        have m2 : 0 ≤ (x.2 : Int) * (H : Int) ∧ (x.2 : Int) * (H : Int) ≤ 1024 := by
          constructor
          · exact Int.mul_nonneg (by omega) (by omega)
          · have h1 : (x.2 : Int) * (H : Int) ≤ 256 * 4 := Int.mul_le_mul (by omega) (by omega) (by omega) (by omega)
            omega
        have e1 := i64_in ((x.1 : Int) * (V : Int)) (by omega)
        have e2 := i64_in ((x.2 : Int) * (H : Int)) (by omega)
        rw [hH, hV]
        clear kc bxk
        have HIT : Hid (iTo C cs x.1 x.2 (k + 1) = iTo C cs x.1 x.2 k ++ yTo (c : Int) ((x.1 : Int) * (V : Int)) ((x.2 : Int) * (H : Int)) H V) := by
          unfold Hid
          rw [iTo, hcE]
          simp only [Int.toNat_natCast, hH, hV]
        have HUP : Hid (iTo C cs x.1 x.2 (k + 1) <+: unitAt C cs x) := by unfold Hid unitAt; rw [hml]; exact iTo_pre C cs x.1 x.2 (by omega)
        have hH4 : H ≤ 4 := by omega
        have hV4 : V ≤ 4 := by omega
        clear hcE hH hV hc0 hc1 hcH hcV
        gi_wp2_with fail
        obtain ⟨W5, hW5⟩ : ∃ W5, w4.alloc (.cells #[.int .i64 (H : Int), .int .i64 (V : Int)] 98) = W5 := ⟨_, rfl⟩
        have g5 : wr.grownBy W5 none := by rw [← hW5]; exact grown_alloc g4 _
        rw [hW5]
        clear hW5 g4
        refine ⟨trivial, (fun h => by simp [Fence.wide] at h), ?_⟩
        refine (CallsIn.inRound l' (places_in Fence.wide _ trivial rfl (H : Int) (V : Int) (c : Int) ((x.1 : Int) * (V : Int)) ((x.2 : Int) * (H : Int)) W5)).mono ?_
        rintro e w' ⟨rfl, rfl⟩
        obtain ⟨W6, hW6⟩ : ∃ W6, (((W5.alloc (.cells #[.int .i64 (H : Int), .int .i64 (V : Int)] 98)).alloc (.cells #[.int .i64 (c : Int)] 3)).alloc (.cells #[.int .i64 ((x.1 : Int) * (V : Int))] 3)).alloc (.cells #[.int .i64 ((x.2 : Int) * (H : Int))] 3) = W6 := ⟨_, rfl⟩
        have g6 : wr.grownBy W6 none := by rw [← hW6]; exact grown_alloc (grown_alloc (grown_alloc (grown_alloc g5 _) _) _) _
        have s6 : W6.heap.size = W5.heap.size + 4 := by rw [← hW6]; simp
        have p0 : W6.heap[W5.heap.size]? = some (.cells #[.int .i64 (H : Int), .int .i64 (V : Int)] 98 (0, 0)) := by
          rw [← hW6, Below.heap_alloc _ _ _ (by simp; omega), Below.heap_alloc _ _ _ (by simp; omega), Below.heap_alloc _ _ _ (by simp)]; exact heap_alloc_new _ _
        have p1 : W6.heap[W5.heap.size + 1]? = some (.cells #[.int .i64 (c : Int)] 3 (0, 0)) := by
          rw [← hW6, Below.heap_alloc _ _ _ (by simp), Below.heap_alloc _ _ _ (by simp)]
          have := heap_alloc_new (W5.alloc (.cells #[.int .i64 (H : Int), .int .i64 (V : Int)] 98)) (.cells #[.int .i64 (c : Int)] 3)
          simpa using this
        have p2 : W6.heap[W5.heap.size + 2]? = some (.cells #[.int .i64 ((x.1 : Int) * (V : Int))] 3 (0, 0)) := by
          rw [← hW6, Below.heap_alloc _ _ _ (by simp)]
          have := heap_alloc_new ((W5.alloc (.cells #[.int .i64 (H : Int), .int .i64 (V : Int)] 98)).alloc (.cells #[.int .i64 (c : Int)] 3)) (.cells #[.int .i64 ((x.1 : Int) * (V : Int))] 3)
          simpa using this
        have p3 : W6.heap[W5.heap.size + 3]? = some (.cells #[.int .i64 ((x.2 : Int) * (H : Int))] 3 (0, 0)) := by
          rw [← hW6]
          have := heap_alloc_new (((W5.alloc (.cells #[.int .i64 (H : Int), .int .i64 (V : Int)] 98)).alloc (.cells #[.int .i64 (c : Int)] 3)).alloc (.cells #[.int .i64 ((x.1 : Int) * (V : Int))] 3)) (.cells #[.int .i64 ((x.2 : Int) * (H : Int))] 3)
          simpa using this
        rw [hW6]
        clear hW6
        have sk := (unhide hbk).size
        have s5 := g5.size
        have hB6 : But (fun k => O k ∨ k = l) Wa W6 := (unhide hbk).trans (But.of_grown g6 (fun g e => by cases e))
        have hl6 : W6.heap[l']? = some (.loop r0) := (hB6.block l' (Array.getElem?_eq_some_iff.1 hr0).1 hNl).trans hr0
        have hO6 : ∀ k, (O k ∨ k = l) → k < W6.heap.size := fun k e => by have := hOnew k e; omega
        have loc2 : LocalJ (fun k => O k ∨ k = l) (fun (pre' : List Pl) W' => J (pre.flatMap (unitAt C cs) ++ iTo C cs x.1 x.2 k ++ pre') W') := fun pre A B h hk => hJ _ A B h hk
        have hJ6 : J (pre.flatMap (unitAt C cs) ++ iTo C cs x.1 x.2 k ++ []) W6 := by
          rw [List.append_nil]
          exact hJ _ _ _ (unhide hJk) (fun q hq => g6.block q (by have := hOnew q hq; omega) (by simp))
        have HB6 := hide hB6
        have HJ6 := hide hJ6
        clear hB6 hJ6 hJk g5 g6
        gi_wp2
        refine rangeFunc_gives2_in (l₀ := l') (r₀ := r0) hl6 (gf := 87) (lb := #[.pointer (some ⟨W5.heap.size, 0, none⟩), .pointer (some ⟨W5.heap.size + 1, 0, none⟩), .pointer (some ⟨W5.heap.size + 2, 0, none⟩), .pointer (some ⟨W5.heap.size + 3, 0, none⟩)]) rfl (enters_of Try.func87 (by kernel_rfl) rfl) hO6
          (places_gives W5.heap.size (W5.heap.size + 1) (W5.heap.size + 2) (W5.heap.size + 3) H V (by omega) (by omega) (c : Int) ((x.1 : Int) * (V : Int)) ((x.2 : Int) * (H : Int)) (by omega) (by omega) _ W6 p0 p1 p2 p3 (fun e => by have := hOnew _ e; omega) (fun e => by have := hOnew _ e; omega) (fun e => by have := hOnew _ e; omega) (fun e => by have := hOnew _ e; omega)) (fun _ => rfl) _ loc2 (unhide HJ6)
          (fun l'' pl a' Wk => ∃ B, a' = { tmps := #[.func (.yield l) #[] #[], .pointer (some ⟨Bx, 0, none⟩), .pointer (some ⟨Bs, 0, none⟩), .pointer (some ⟨W.heap.size, 0, none⟩), .int .i64 (x.1 : Int), .int .i64 (x.2 : Int), undef, .int .i64 (c : Int), .pointer (some ⟨w4.heap.size, 0, none⟩), .pointer (some ⟨B, 0, none⟩), .agg X, .agg #[.int .i64 (uw : Int), .int .i64 (uh : Int)], .func (.func 93) #[] #[.pointer (some ⟨W2.heap.size, 0, none⟩)], .int .i64 (x.1 : Int), .int .i64 (x.2 : Int), .slice (some ⟨cb, coff, none⟩) m ccap, .int .i64 (m : Int), .int .i64 (k : Int), .bool true, .pointer (some ⟨cb, coff + k, none⟩), .int .i64 (c : Int), .agg X, .int .i64 (c : Int), .agg #[.int .i64 (H : Int), .int .i64 (V : Int)], .agg #[.int .i64 (H : Int), .int .i64 (V : Int)], .int .i64 (c : Int), .int .i64 (x.1 : Int), .pointer (some ⟨w4.heap.size, 1, none⟩), .int .i64 (V : Int), .int .i64 ((x.1 : Int) * (V : Int)), .int .i64 (x.2 : Int), .pointer (some ⟨w4.heap.size, 0, none⟩), .int .i64 (H : Int), .int .i64 ((x.2 : Int) * (H : Int)), .func (.func 87) #[] #[.pointer (some ⟨W5.heap.size, 0, none⟩), .pointer (some ⟨W5.heap.size + 1, 0, none⟩), .pointer (some ⟨W5.heap.size + 2, 0, none⟩), .pointer (some ⟨W5.heap.size + 3, 0, none⟩)], .agg #[.int .i64 pl.1, .int .i64 pl.2.1, .int .i64 pl.2.2], u36, u37, u38, u39, u40], defers := [] } ∧ B ≠ l'' ∧ Wk.heap[B]? = some (.cells #[.int .i64 pl.1, .int .i64 pl.2.1, .int .i64 pl.2.2] 57 (0, 0))) (fun l'' pl a' Wk Wk' h hk => by obtain ⟨B, e1, e2, e3⟩ := h; exact ⟨B, e1, e2, (hk B e2).trans e3⟩) ?assign2 ?body2 ?done2
        case assign2 =>
          intro l'' mm2 pl Wb hla hlb K hK
          gi_wp2
          exact hK _ _ ⟨_, rfl, by omega, heap_alloc_new _ _⟩ (World.grownBy_alloc _ _ _)
        case body2 =>
          intro l'' mm2 pre' pl a'' Wb hA hi2 hb2 hlen2 hrec2 hwl2
          obtain ⟨B, rfl, hBl, hBB⟩ := hA
          have hbb := (unhide HB6).trans hb2
          have ky : Wb.cell? ⟨W.heap.size, 0, none⟩ = some (.func (.yield l) #[] #[]) := by rw [cell_of_row Wb _ 0 _ _ (0, 0) (unhide HBY Wb hbb)]; rfl
          have q0 : Wb.cell? ⟨B, 0, none⟩ = some (.int .i64 pl.1) := by rw [cell_of_row Wb _ 0 _ _ (0, 0) hBB]; rfl
          have q1 : Wb.cell? ⟨B, 1, none⟩ = some (.int .i64 pl.2.1) := by rw [cell_of_row Wb _ 1 _ _ (0, 0) hBB]; rfl
          have q2 : Wb.cell? ⟨B, 2, none⟩ = some (.int .i64 pl.2.2) := by rw [cell_of_row Wb _ 2 _ _ (0, 0) hBB]; rfl
          have hpre : pre.flatMap (unitAt C cs) ++ iTo C cs x.1 x.2 k ++ pre' ++ [pl] <+: (rTo C cs uw uh).flatten := by
            rw [List.append_assoc, List.append_assoc]
            refine unhide HTOT _ (List.IsPrefix.trans ?_ (unhide HUP))
            rw [unhide HIT]
            exact (List.prefix_append_right_inj _).2 hlen2
          obtain ⟨fn, tmps, assign, body, hy, hR⟩ := unhide HY _ pl Wb (mm2 - 1) hi2 (hbW.trans hbb) hpre
          have HM : Hid (∀ W', J (pre.flatMap (unitAt C cs) ++ iTo C cs x.1 x.2 k ++ pre' ++ [pl]) W' → J (pre.flatMap (unitAt C cs) ++ iTo C cs x.1 x.2 k ++ (pre' ++ [pl])) W') := fun W' h => by rw [← List.append_assoc]; exact h
          clear hpre hBB
          gi_wp2
          refine ⟨fun h => by simp [Fence.wide] at h, ?_⟩
          refine RoundIn.mono (F := (Fence.wide.inRound l').inRound l'') hR ?_
          rintro e W7 ⟨rfl, hj, hb7⟩
          gi_wp2
          exact ⟨unhide HM _ hj, hb7⟩
        case done2 =>
          intro Wd hiD hbD
          have HJD : Hid (J (pre.flatMap (unitAt C cs) ++ iTo C cs x.1 x.2 (k + 1)) Wd) := by unfold Hid; rw [unhide HIT, ← List.append_assoc]; exact hiD
          have HBD := hide ((unhide HB6).trans hbD)
          clear hiD hbD
          gi_wp2
          go_roundw
          case rel => exact ⟨k + 1, by omega, by go_num, HJD, HBD⟩
          case measure => simp [intOf]; omega
      · obtain rfl : k = m := by omega
        have HJE : Hid (J ((pre ++ [x]).flatMap (unitAt C cs)) wr) := by
          unfold Hid
          simp only [List.flatMap_append, List.flatMap_cons, List.flatMap_nil, List.append_nil]
          rw [unitAt, hml]
          exact unhide hJk
        gi_wp2
        exact ⟨unhide HJE, unhide hbk⟩
  case done =>
    intro D W5 hD hi b5 hdef
    rw [← rTo_flat] at hi
    go_wp2
    refine ⟨by simp, .inl ⟨_, _, rfl, run_takeDeferred hdef, ?_⟩⟩
    have hDn : ∀ q, (O q ∨ q = l) → q ≠ D := fun q e h => by have := hOnew q e; omega
    refine ⟨_, results_none rfl _ _ _, ⟨_, rfl⟩, hJ _ _ _ hi (fun q hq => World.putObj_heap_other (hDn q hq)), ?_⟩
    have b6 := (B3 (fun k => O k ∨ k = l)).trans b5
    exact ⟨b6.os, b6.tape, b6.output, Nat.le_trans b6.size (grownBy_putObj' W5 D _).size, fun q hq ho => (World.putObj_heap_other (by omega)).trans (b6.block q hq ho)⟩

end Go.Proofs.Ytoeehfjbnbbijaa
