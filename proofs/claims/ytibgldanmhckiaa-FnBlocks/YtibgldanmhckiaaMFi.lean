/-
  LawBlocks, RangeOwn, Spots, RangeStop, Ints, TabKit.
-/
import Derived.RangeFuncNested
import Derived.RangeFuncBound
import Derived.RangeFuncCalls
import Derived.RangeFuncLeaves
import Derived.Shelf.Abstract
import Derived.WalkKit
import Derived.OwnWalkIn
import Derived.TacticsInMore
import Derived.LoopNIn
import Derived.LoopIn
import Derived.Shelf.RegionOpen
import Derived.OrdersIn
import Derived.Test.YtibgldanmhckiaaRows
import Derived.Deep.QuietTactic
import Derived.BigQuiet
import Derived.Deep.WholeRow
import Derived.Deep.MidRow
import Derived.ChangeKeysEq
import Derived.Laws.ResultCell
import Derived.Maps.AppendAt
import Derived.Test.YtibgldanmhckiaaMFh

namespace Go.Proofs.Ytibgldanmhckiaa
open Go.RowKit

/-- What the law has drawn, in its boxes. -/
structure Bl (b3 b4 b5 : Nat) (p wd ht rs : Int) (fo : Option Addr) (fn fc : Nat) (C : Nat → Nat → Int) (po : Option Addr) (pn pc : Nat) (X : List (List (List Int))) (co ro cl : Int) (so : Option Addr) (m : Nat) (bl : List Int) (W : World) : Prop where
  f3 : W.heap[b3]? = some (.cells #[.int .i64 p, .int .i64 wd, .int .i64 ht, .int .i64 rs, .slice fo fn fc] 26 (0, 0))
  f4 : W.heap[b4]? = some (.cells #[.slice po pn pc] 29 (0, 0))
  f5 : W.heap[b5]? = some (.cells #[.int .i64 co, .int .i64 ro, .int .i64 cl] 31 (0, 0))
  rc : RdC W fo fn C
  cx : Rd3 W (.slice po pn pc) X
  rd : Rd .i64 W so m bl
section
variable {W W' : World} {b3 b4 b5 : Nat} {p wd ht rs : Int} {fo : Option Addr} {fn fc : Nat} {C : Nat → Nat → Int} {po : Option Addr} {pn pc : Nat} {X : List (List (List Int))} {co ro cl : Int} {so : Option Addr} {m : Nat} {bl : List Int}
theorem Bl.new (h : Bl b3 b4 b5 p wd ht rs fo fn fc C po pn pc X co ro cl so m bl W) (g : W.grownBy W' none) : Bl b3 b4 b5 p wd ht rs fo fn fc C po pn pc X co ro cl so m bl W' :=
  ⟨at_row g h.f3 (by simp), at_row g h.f4 (by simp), at_row g h.f5 (by simp), h.rc.grown g, st3 _ _ _ _ h.cx g, h.rd.grown g⟩
theorem Bl.c4 (h : Bl b3 b4 b5 p wd ht rs fo fn fc C po pn pc X co ro cl so m bl W) : W.cell? ⟨b4, 0, none⟩ = some (.slice po pn pc) := by rw [cell_of_row W b4 0 _ _ (0, 0) h.f4]; rfl
end
/-- Coefficients that were answered, in a box. -/
structure Bo (b : Nat) (vo : Option Addr) (vn vc : Nat) (L : List (List (List Int))) (W : World) : Prop where
  bx : W.heap[b]? = some (.cells #[.slice vo vn vc] 29 (0, 0))
  rd : Rd3 W (.slice vo vn vc) L
theorem Bo.new {b : Nat} {vo : Option Addr} {vn vc : Nat} {L : List (List (List Int))} {W W' : World} (h : Bo b vo vn vc L W) (g : W.grownBy W' none) : Bo b vo vn vc L W' := ⟨at_row g h.bx (by simp), st3 _ _ _ _ h.rd g⟩
theorem Bo.c {b : Nat} {vo : Option Addr} {vn vc : Nat} {L : List (List (List Int))} {W : World} (h : Bo b vo vn vc L W) : W.cell? ⟨b, 0, none⟩ = some (.slice vo vn vc) := by rw [cell_of_row W b 0 _ _ (0, 0) h.bx]; rfl

set_option maxRecDepth 20000 in
set_option maxHeartbeats 6400000 in
theorem lawBlocks_in (HE : ImplEmpty) (HC : ImplCoefsOk) (HA : ImplBlockAt) (HW : ImplWith) (ao : Option Addr) (n cap : Nat) (zs : List Int) (w : World) (hr : Rd .u8 w ao n zs) (hb : ∀ i, 0 ≤ zs.getD i 0 ∧ zs.getD i 0 ≤ 255) (hn : n ≤ 1048576) :
    Calls Try.prog 3 #[.slice ao n cap] w fun e w' => e = .returned (.bool true) ∧ w.grownBy w' none := by
  have HR := hide hr
  have HB := hide hb
  have HEE := hide HE
  have HCC := hide HC
  have HAA := hide HA
  have HWW := hide HW
  clear hr hb HE HC HA HW
  go_enter Try.func3, Try.ntmps3
  go_wp2_with fail
  refine (lawBig ao n cap false w (by unfold Hid; simp; omega)).mono ?_
  rintro e w0 ⟨rfl, rfl⟩
  go_wp2_with fail
  refine (drawWithBlock ao n cap zs w (unhide HR) (unhide HB) hn).mono ?_
  rintro e w1 ⟨p, wd, ht, rs, fo, fn, fc, C, pv, X, co, ro, cl, so, m, sc, bl, rfl, hd⟩
  obtain ⟨po, pc, rfl⟩ : ∃ po pc, pv = .slice po X.length pc := by obtain ⟨o, c, e, _⟩ := hd.co; exact ⟨o, c, e⟩
  have hn5 := hd.n5
  have hm65 := hd.m65
  have hsz : szCo X ≤ 1048576 := Nat.le_trans (shape4_sz hd.sh) (by omega)
  obtain ⟨W3, HW3⟩ : ∃ W3, Hid ((((w1.alloc (.cells #[.int .i64 0, .int .i64 0, .int .i64 0, .int .i64 0, .slice none 0 0] 26)).alloc (.cells #[.slice none 0 0] 29)).alloc (.cells #[.int .i64 0, .int .i64 0, .int .i64 0] 31)) = W3) := ⟨_, rfl⟩
  have G0 : w1.grownBy W3 none := by rw [← unhide HW3]; exact grown_alloc (grown_alloc (grown_alloc (World.grownBy.refl _ _) _) _) _
  have A0 : W3.heap[w1.heap.size]? = some (.cells #[.int .i64 0, .int .i64 0, .int .i64 0, .int .i64 0, .slice none 0 0] 26 (0, 0)) := by
    rw [← unhide HW3]
    exact at_row (World.grownBy_alloc _ _ none) (at_row (World.grownBy_alloc _ _ none) (heap_alloc_new w1 _) (by simp)) (by simp)
  have A1 : W3.heap[w1.heap.size + 1]? = some (.cells #[.slice none 0 0] 29 (0, 0)) := by
    rw [← unhide HW3]
    refine at_row (World.grownBy_alloc _ _ none) ?_ (by simp)
    have := heap_alloc_new (w1.alloc (.cells #[.int .i64 0, .int .i64 0, .int .i64 0, .int .i64 0, .slice none 0 0] 26)) (.cells #[.slice none 0 0] 29)
    simpa using this
  have A2 : W3.heap[w1.heap.size + 1 + 1]? = some (.cells #[.int .i64 0, .int .i64 0, .int .i64 0] 31 (0, 0)) := by
    rw [← unhide HW3]
    have := heap_alloc_new ((w1.alloc (.cells #[.int .i64 0, .int .i64 0, .int .i64 0, .int .i64 0, .slice none 0 0] 26)).alloc (.cells #[.slice none 0 0] 29)) (.cells #[.int .i64 0, .int .i64 0, .int .i64 0] 31)
    simpa using this
  have HD := hide hd
  have HG0 := hide G0
  have HA0 := hide A0
  have HA1 := hide A1
  have HA2 := hide A2
  clear hd G0 A0 A1 A2
  go_wp2_with (rw [unhide HW3]; refine wpList_store_row rfl 26 _ _ rfl w1.heap.size rfl #[.int .i64 p, .int .i64 wd, .int .i64 ht, .int .i64 rs, .slice fo fn fc] rfl #[.int .i64 0, .int .i64 0, .int .i64 0, .int .i64 0, .slice none 0 0] 26 (unhide HA0) rfl (by kernel_rfl) (by simp [Value.oneCell']) ?_)
  intro wa hBa ga
  have HA3 := hide (at_row ga (unhide HA1) (fun e => by have := Option.some.inj e; omega))
  have HA4 := hide (at_row ga (unhide HA2) (fun e => by have := Option.some.inj e; omega))
  go_wp2_with (refine wpList_store_row rfl 29 _ _ rfl (w1.heap.size + 1) rfl #[.slice po X.length pc] rfl #[.slice none 0 0] 29 (unhide HA3) rfl (by kernel_rfl) (by simp [Value.oneCell']) ?_)
  intro wb hBb gb
  have HA5 := hide (at_row gb (unhide HA4) (fun e => by have := Option.some.inj e; omega))
  go_wp2_with (refine wpList_store_row rfl 31 _ _ rfl (w1.heap.size + 1 + 1) rfl #[.int .i64 co, .int .i64 ro, .int .i64 cl] rfl #[.int .i64 0, .int .i64 0, .int .i64 0] 31 (unhide HA5) rfl (by kernel_rfl) (by simp [Value.oneCell']) ?_)
  intro wc hBc gc
  have G13 : w1.grownBy wc none := grown_new (grown_new (grown_new (unhide HG0) ga (fun k e => by have := Option.some.inj e; omega)) gb (fun k e => by have := Option.some.inj e; omega)) gc (fun k e => by have := Option.some.inj e; omega)
  obtain ⟨b3, HB3⟩ : ∃ b3, Hid (w1.heap.size = b3) := ⟨_, rfl⟩
  obtain ⟨b4, HB4⟩ : ∃ b4, Hid (b3 + 1 = b4) := ⟨_, rfl⟩
  obtain ⟨b5, HB5⟩ : ∃ b5, Hid (b4 + 1 = b5) := ⟨_, rfl⟩
  have hBl : Bl w1.heap.size (w1.heap.size + 1) (w1.heap.size + 1 + 1) p wd ht rs fo fn fc C po X.length pc X co ro cl so m bl wc := ⟨at_row gc (at_row gb hBa (fun e => by have := Option.some.inj e; omega)) (fun e => by have := Option.some.inj e; omega), at_row gc hBb (fun e => by have := Option.some.inj e; omega), hBc, (unhide HD).rc.grown G13, st3 _ _ _ _ (unhide HD).co G13, (unhide HD).rd.grown G13⟩
  have HGW := hide (grown_trans (unhide HD).grown G13)
  rw [unhide HB3, unhide HB4, unhide HB5] at hBl ⊢
  have HBL := hide hBl
  clear hBl hBa hBb hBc ga gb gc G13 HG0 HA0 HA1 HA2 HA3 HA4 HA5 HD HB3 HB4 HB5 HW3 HR HB
  obtain ⟨fb, HFB⟩ : ∃ fb, Hid (frameB p wd ht rs fn C = fb) := ⟨_, rfl⟩
  obtain ⟨L, HL⟩ : ∃ L, Hid (withBlockF fb wd ht fn C X co ro cl bl = L) := ⟨_, rfl⟩
  have HSL : Hid (szCo L ≤ 1048576) := by have := shape_sz (shape_with (wd := wd) (ht := ht) (unhide HFB) X co ro cl bl); rw [unhide HL] at this; unfold Hid; omega
  have HSX := hide hsz
  obtain ⟨f0, f1, f2, f3, f4⟩ := frameCells5 (unhide HBL).f3
  have c4 := (unhide HBL).c4
  obtain ⟨p0, p1, p2⟩ := placeCells (unhide HBL).f5
  go_wp2_with fail
  refine (unhide HWW p wd ht rs fo fn fc C (.slice po X.length pc) X co ro cl so m sc bl wc (unhide HBL).rc (by omega) (unhide HBL).cx hsz (unhide HBL).rd (by omega) fb HFB L HL).mono ?_
  rintro e w2 ⟨u2, F2, rfl, o2, -, -, g2⟩
  obtain ⟨xv, rfl, o2⟩ := o2
  obtain ⟨xo, xc, rfl⟩ := OwR.form o2
  have gA : w2.grownBy (w2.alloc (.cells #[.slice xo L.length xc] 29)) none := World.grownBy_alloc _ _ _
  have HBL7 := hide ((unhide HBL).new (grown_trans g2 gA))
  have HX7 : Hid (Bo w2.heap.size xo L.length xc L (w2.alloc (.cells #[.slice xo L.length xc] 29))) := ⟨heap_alloc_new w2 _, st3 _ _ _ _ (Ow3.rd o2) gA⟩
  have HG7 := hide (grown_trans (unhide HGW) (grown_trans g2 gA))
  clear f0 f1 f2 f3 f4 c4 p0 p1 p2 o2 g2 gA HBL HGW
  obtain ⟨f0, f1, f2, f3, f4⟩ := frameCells5 (unhide HBL7).f3
  have c4 := (unhide HBL7).c4
  obtain ⟨p0, p1, p2⟩ := placeCells (unhide HBL7).f5
  obtain ⟨b7, HB7⟩ : ∃ b7, Hid (w2.heap.size = b7) := ⟨_, rfl⟩
  obtain ⟨W7, HW7⟩ : ∃ W7, Hid (w2.alloc (.cells #[.slice xo L.length xc] 29) = W7) := ⟨_, rfl⟩
  rw [unhide HW7] at HBL7 HX7 HG7
  rw [unhide HB7] at HX7
  go_wp2_with fail
  rw [unhide HW7, unhide HB7]
  clear f0 f1 f2 f3 f4 c4 p0 p1 p2 HW7 HB7
  refine (specWith p wd ht rs fo fn fc C (.slice po X.length pc) X co ro cl so m sc bl W7 (unhide HBL7).rc (unhide HBL7).cx (unhide HSX) (unhide HBL7).rd fb HFB L HL).mono ?_
  rintro e w3 ⟨u3, F3, rfl, o3, -, -, g3⟩
  obtain ⟨yv, rfl, o3⟩ := o3
  obtain ⟨yo, yc, rfl⟩ := OwR.form o3
  have gA : w3.grownBy (w3.alloc (.cells #[.slice yo L.length yc] 29)) none := World.grownBy_alloc _ _ _
  have HBL8 := hide ((unhide HBL7).new (grown_trans g3 gA))
  have HX8 := hide ((unhide HX7).new (grown_trans g3 gA))
  have HY8 : Hid (Bo w3.heap.size yo L.length yc L (w3.alloc (.cells #[.slice yo L.length yc] 29))) := ⟨heap_alloc_new w3 _, st3 _ _ _ _ (Ow3.rd o3) gA⟩
  have HG8 := hide (grown_trans (unhide HG7) (grown_trans g3 gA))
  clear o3 g3 gA HBL7 HX7 HG7
  obtain ⟨b8, HB8⟩ : ∃ b8, Hid (w3.heap.size = b8) := ⟨_, rfl⟩
  obtain ⟨W8, HW8⟩ : ∃ W8, Hid (w3.alloc (.cells #[.slice yo L.length yc] 29) = W8) := ⟨_, rfl⟩
  rw [unhide HW8] at HBL8 HX8 HY8 HG8
  rw [unhide HB8] at HY8
  obtain ⟨bX, HBX⟩ : ∃ bX, Hid (coefsOkF fb wd ht fn C X = bX) := ⟨_, rfl⟩
  have MKS : Hid (∀ W, Bl b3 b4 b5 p wd ht rs fo fn fc C po X.length pc X co ro cl so m bl W → Bo b7 xo L.length xc L W → Bo b8 yo L.length yc L W → (W.cell? ⟨b3, 0, none⟩ = some (.int .i64 p) ∧ W.cell? ⟨b3, 1, none⟩ = some (.int .i64 wd) ∧ W.cell? ⟨b3, 2, none⟩ = some (.int .i64 ht) ∧ W.cell? ⟨b3, 3, none⟩ = some (.int .i64 rs) ∧ W.cell? ⟨b3, 4, none⟩ = some (.slice fo fn fc)) ∧ W.cell? ⟨b4, 0, none⟩ = some (.slice po X.length pc) ∧ W.cell? ⟨b7, 0, none⟩ = some (.slice xo L.length xc) ∧ W.cell? ⟨b8, 0, none⟩ = some (.slice yo L.length yc)) := fun W h1 h2 h3 => ⟨frameCells5 h1.f3, h1.c4, h2.c, h3.c⟩
  have gD := grown_drew (World.grownBy.refl W8 none)
  have HBLD := hide ((unhide HBL8).new gD)
  have HXD := hide ((unhide HX8).new gD)
  have HYD := hide ((unhide HY8).new gD)
  have SD := hide (unhide MKS _ (unhide HBLD) (unhide HXD) (unhide HYD))
  have HGD := hide (grown_trans (unhide HG8) gD)
  clear gD HBL8 HX8 HY8 HG8
  go_wp2
  rw [unhide HW8, unhide HB8]
  clear HW8 HB8
  refine wp_region_noPanic ?_
  refine wp_region_raw (fun w' => (w'.cell? ⟨b3, 0, none⟩ = some (.int .i64 p) ∧ w'.cell? ⟨b3, 1, none⟩ = some (.int .i64 wd) ∧ w'.cell? ⟨b3, 2, none⟩ = some (.int .i64 ht) ∧ w'.cell? ⟨b3, 3, none⟩ = some (.int .i64 rs) ∧ w'.cell? ⟨b3, 4, none⟩ = some (.slice fo fn fc)) ∧ w'.cell? ⟨b4, 0, none⟩ = some (.slice po X.length pc) ∧ w'.cell? ⟨b7, 0, none⟩ = some (.slice xo L.length xc) ∧ w'.cell? ⟨b8, 0, none⟩ = some (.slice yo L.length yc)) [true, true, false, false, false, false, false, false, false, false, false, false, false] (by kernel_rfl) (fun _ _ _ _ _ h => h) rfl (by kernel_rfl) (unhide SD) ?_
  refine heldF_take (v := ?_) (Or.inl ⟨by rfl, ?_⟩) ?_
  rotate_left 1
  · intro w' hSw
    try dsimp only at hSw
    obtain ⟨⟨z0, z1, z2, z3, z4⟩, z5, z6, z7⟩ := hSw
    go_simp
    try with_reducible rfl
  try simp only [Act.put, List.setIfInBounds_toArray, List.set_cons_zero, List.set_cons_succ]
  refine heldF_take (v := ?_) (Or.inl ⟨by rfl, ?_⟩) ?_
  rotate_left 1
  · intro w' hSw
    try dsimp only at hSw
    obtain ⟨⟨z0, z1, z2, z3, z4⟩, z5, z6, z7⟩ := hSw
    go_simp
    try with_reducible rfl
  try simp only [Act.put, List.setIfInBounds_toArray, List.set_cons_zero, List.set_cons_succ]
  iterate 11 refine heldF_skip ?_
  refine heldF_nil ?_
  refine anyH_step1 (i := 2) rfl (by kernel_rfl) (fun K hK => ?_)
  go_simp
  refine (sameCoefsC W8.drew (.agg #[.slice xo L.length xc]) (.agg #[.slice yo L.length yc]) L ⟨_, rfl, (unhide HXD).rd⟩ ⟨_, rfl, (unhide HYD).rd⟩ (unhide HSL)).mono ?_
  rintro e w9 ⟨rfl, g9⟩
  have HBL9 := hide ((unhide HBLD).new g9)
  have HX9 := hide ((unhide HXD).new g9)
  have HY9 := hide ((unhide HYD).new g9)
  have S9 := hide (unhide MKS _ (unhide HBL9) (unhide HX9) (unhide HY9))
  have HG9 := hide (grown_trans (unhide HGD) g9)
  clear g9 HBLD HXD HYD SD HGD
  go_simp
  refine hK.out _ _ (unhide S9) ?_
  clear hK K
  try simp only [Act.put, List.setIfInBounds_toArray, List.set_cons_zero, List.set_cons_succ]
  refine anyH_step1 (i := 3) rfl (by kernel_rfl) (fun K hK => ?_)
  go_simp
  refine hK.out _ _ (unhide S9) ?_
  clear hK K
  try simp only [Act.put, List.setIfInBounds_toArray, List.set_cons_zero, List.set_cons_succ]
  refine anyH_step1 (i := 4) rfl (by kernel_rfl) (fun K hK => ?_)
  go_simp
  refine hK.out _ _ (unhide S9) ?_
  clear hK K
  try simp only [Act.put, List.setIfInBounds_toArray, List.set_cons_zero, List.set_cons_succ]
  refine anyH_take1 (i := 5) (v := ?_) rfl (by kernel_rfl) (fun _ _ _ _ _ h => h) (unhide S9) (Or.inl ⟨by rfl, ?_⟩) ?_
  rotate_left 1
  · intro w' hSw
    try dsimp only at hSw
    obtain ⟨⟨z0, z1, z2, z3, z4⟩, z5, z6, z7⟩ := hSw
    go_simp
    try with_reducible rfl
  try simp only [Act.put, List.setIfInBounds_toArray, List.set_cons_zero, List.set_cons_succ]
  refine anyH_take1 (i := 6) (v := ?_) rfl (by kernel_rfl) (fun _ _ _ _ _ h => h) (unhide S9) (Or.inl ⟨by rfl, ?_⟩) ?_
  rotate_left 1
  · intro w' hSw
    try dsimp only at hSw
    obtain ⟨⟨z0, z1, z2, z3, z4⟩, z5, z6, z7⟩ := hSw
    go_simp
    try with_reducible rfl
  try simp only [Act.put, List.setIfInBounds_toArray, List.set_cons_zero, List.set_cons_succ]
  refine anyH_take1 (i := 8) (v := ?_) rfl (by kernel_rfl) (fun _ _ _ _ _ h => h) (unhide S9) (Or.inl ⟨by rfl, ?_⟩) ?_
  rotate_left 1
  · intro w' hSw
    try dsimp only at hSw
    obtain ⟨⟨z0, z1, z2, z3, z4⟩, z5, z6, z7⟩ := hSw
    go_simp
    try with_reducible rfl
  try simp only [Act.put, List.setIfInBounds_toArray, List.set_cons_zero, List.set_cons_succ]
  refine anyH_take1 (i := 9) (v := ?_) rfl (by kernel_rfl) (fun _ _ _ _ _ h => h) (unhide S9) (Or.inl ⟨by rfl, ?_⟩) ?_
  rotate_left 1
  · intro w' hSw
    try dsimp only at hSw
    obtain ⟨⟨z0, z1, z2, z3, z4⟩, z5, z6, z7⟩ := hSw
    go_simp
    try with_reducible rfl
  try simp only [Act.put, List.setIfInBounds_toArray, List.set_cons_zero, List.set_cons_succ]
  refine anyH_step1 (i := 7) rfl (by kernel_rfl) (fun K hK => ?_)
  go_simp
  refine (unhide HCC p wd ht rs fo fn fc C (.slice po X.length pc) X w9 (unhide HBL9).rc (by omega) (unhide HBL9).cx (unhide HSX) fb bX HFB HBX).mono ?_
  rintro e w10 ⟨rfl, g10⟩
  have HBL10 := hide ((unhide HBL9).new g10)
  have HX10 := hide ((unhide HX9).new g10)
  have HY10 := hide ((unhide HY9).new g10)
  have S10 := hide (unhide MKS _ (unhide HBL10) (unhide HX10) (unhide HY10))
  have HG10 := hide (grown_trans (unhide HG9) g10)
  clear g10 HBL9 HX9 HY9 S9 HG9
  go_simp
  refine hK.out _ _ (unhide S10) ?_
  clear hK K
  try simp only [Act.put, List.setIfInBounds_toArray, List.set_cons_zero, List.set_cons_succ]
  refine anyH_step1 (i := 10) rfl (by kernel_rfl) (fun K hK => ?_)
  go_simp
  refine (specCoefsOk p wd ht rs fo fn fc C (.slice po X.length pc) X w10 (unhide HBL10).rc (unhide HBL10).cx (unhide HSX) fb bX HFB HBX).mono ?_
  rintro e w11 ⟨rfl, g11⟩
  have HBL11 := hide ((unhide HBL10).new g11)
  have HX11 := hide ((unhide HX10).new g11)
  have HY11 := hide ((unhide HY10).new g11)
  have S11 := hide (unhide MKS _ (unhide HBL11) (unhide HX11) (unhide HY11))
  have HG11 := hide (grown_trans (unhide HG10) g11)
  clear g11 HBL10 HX10 HY10 S10 HG10
  go_simp
  refine hK.out _ _ (unhide S11) ?_
  clear hK K
  try simp only [Act.put, List.setIfInBounds_toArray, List.set_cons_zero, List.set_cons_succ]
  have hbb : (bX != bX) = false := by simp
  refine anyH_step1 (i := 11) rfl (by kernel_rfl) (fun K hK => ?_)
  go_simp
  refine hK.out _ _ (unhide S11) ?_
  clear hK K
  try simp only [Act.put, List.setIfInBounds_toArray, List.set_cons_zero, List.set_cons_succ]
  refine anyH_step1 (i := 12) rfl (by kernel_rfl) (fun K hK => ?_)
  go_simp
  refine hK.out _ _ (unhide S11) ?_
  clear hK K
  try simp only [Act.put, List.setIfInBounds_toArray, List.set_cons_zero, List.set_cons_succ]
  refine wpAnyH_done (by kernel_rfl) (NoPanic.normal ?_) _
  clear S11 MKS
  have cy := (unhide HY11).c
  clear cy
  obtain ⟨Ln, HLN⟩ : ∃ Ln, Hid (L.length = Ln) := ⟨_, rfl⟩
  rw [unhide HLN] at HX11 HY11 ⊢
  have cy := (unhide HY11).c
  rcases Nat.eq_zero_or_pos Ln with h0 | h0
  · subst h0
    go_wp2
    go_ret
    exact ⟨rfl, unhide HG11⟩
  · have hd0 : ((Ln : Int) == 0) = false := beq_false_of_ne (by omega)
    have hne : L ≠ [] := fun e => by have := unhide HLN; rw [e] at this; simp at this; omega
    obtain ⟨hfb, c, kk, hP⟩ := put_of (unhide HL) hne
    subst hfb
    obtain ⟨c', r, l, e1, e2, e3, hcn, hrb, hlb, ekk, -⟩ := place_in hP.pl
    have e4 := hP.eco
    obtain rfl : c' = c := by omega
    subst e1 e2 e3
    have hgeo := geo_of (unhide HFB)
    have hdm := dims_of hgeo c' hcn
    have HP := hide hP
    have HBLK : Hid (blocksG true wd ht fn C (c' : Int) = ((bwG wd fn C c' : Int), (bhG ht fn C c' : Int))) := by
      unfold Hid blocksG
      rw [Int.toNat_natCast, if_pos (by simp; omega), hdm.bw, hdm.bh]
    have hbw := hdm.bw1
    have hrb2 : r < 128 := by have := hdm.bh1; omega
    obtain ⟨bw, HBW⟩ : ∃ bw, Hid (bwG wd fn C c' = bw) := ⟨_, rfl⟩
    rw [unhide HBW] at HBLK hbw hlb ekk
    have HKK := hide ekk
    have HOKL : Hid (coefsOkF true wd ht fn C L = true) := by unfold Hid coefsOkF; rw [(unhide HP).okY]; rfl
    have HATL : Hid (blockAtF true wd ht fn C L (c' : Int) (r : Int) (l : Int) = bl) := at_put (unhide HP)
    clear hP e4 hgeo hdm HBW ekk hne HY11
    obtain ⟨f0, f1, f2, f3, f4⟩ := frameCells5 (unhide HBL11).f3
    have cx := (unhide HX11).c
    go_wp2_with fail
    refine (unhide HCC p wd ht rs fo fn fc C (.slice xo Ln xc) L w11 (unhide HBL11).rc (by omega) (unhide HX11).rd (unhide HSL) true true HFB HOKL).mono ?_
    rintro e w12 ⟨rfl, g12⟩
    have HBL12 := hide ((unhide HBL11).new g12)
    have HX12 := hide ((unhide HX11).new g12)
    have HG12 := hide (grown_trans (unhide HG11) g12)
    clear g12 HBL11 HX11 HG11 f0 f1 f2 f3 f4 cx cy
    obtain ⟨f0, f1, f2, f3, f4⟩ := frameCells5 (unhide HBL12).f3
    have cx := (unhide HX12).c
    obtain ⟨p0, p1, p2⟩ := placeCells (unhide HBL12).f5
    go_wp2_with fail
    refine (unhide HAA p wd ht rs fo fn fc C (.slice xo Ln xc) L (c' : Int) (r : Int) (l : Int) w12 (unhide HBL12).rc (by omega) (unhide HX12).rd (unhide HSL) true HFB bl HATL).mono ?_
    rintro e w13 ⟨ao13, ac13, rfl, o13, g13⟩
    have HBL13 := hide ((unhide HBL12).new g13)
    have HX13 := hide ((unhide HX12).new g13)
    have HG13 := hide (grown_trans (unhide HG12) g13)
    have HO13 := hide (own_rd o13)
    clear g13 HBL12 HX12 HG12 f0 f1 f2 f3 f4 cx p0 p1 p2 o13
    obtain ⟨Bn, HBN⟩ : ∃ Bn, Hid (bl.length = Bn) := ⟨_, rfl⟩
    have HBM : Hid (Bn = m) := by have := (unhide HBL13).rd.1; have := unhide HBN; unfold Hid; omega
    rw [unhide HBN] at HO13 ⊢
    go_wp2_with fail
    refine (sameIntsC w13 (.slice ao13 Bn ac13) (.slice so m sc) bl ⟨ao13, ac13, by rw [unhide HBN], by rw [unhide HBN]; exact unhide HO13⟩ ⟨so, sc, by rw [unhide HBN, unhide HBM], by rw [unhide HBN, unhide HBM]; exact (unhide HBL13).rd⟩ (by unfold lenI; rw [unhide HBN, unhide HBM]; omega)).mono ?_
    rintro e w14 ⟨rfl, g14⟩
    have HBL14 := hide ((unhide HBL13).new g14)
    have HX14 := hide ((unhide HX13).new g14)
    have HG14 := hide (grown_trans (unhide HG13) g14)
    clear g14 HBL13 HX13 HG13 HO13 HBN HBM
    obtain ⟨f0, f1, f2, f3, f4⟩ := frameCells5 (unhide HBL14).f3
    obtain ⟨p0, p1, p2⟩ := placeCells (unhide HBL14).f5
    go_wp2_with fail
    refine (specBlocksOf p wd ht rs fo fn fc C w14 (unhide HBL14).rc (by omega) true HFB (c' : Int) (bw : Int) _ HBLK).mono ?_
    rintro e w15 ⟨rfl, g15⟩
    have HBL15 := hide ((unhide HBL14).new g15)
    have HX15 := hide ((unhide HX14).new g15)
    have HG15 := hide (grown_trans (unhide HG14) g15)
    clear g15 HBL14 HX14 HG14 f0 f1 f2 f3 f4 p0 p1 p2 HBLK
    obtain ⟨Xn, HXN⟩ : ∃ Xn, Hid (X.length = Xn) := ⟨_, rfl⟩
    rw [unhide HXN] at HBL15 ⊢
    have hXn : Xn ≤ 1048576 := by have h1 := szR_len (szR lenI) X; have h2 := unhide HSX; have h3 := unhide HXN; unfold szCo at h2; omega
    go_wp2
    go_loopw [11] (fun iv wr => ∃ i : Nat, i ≤ Xn ∧ iv = .int .i64 i ∧ Hid (w15.grownBy wr none)) (fun iv _ => Xn - (intOf iv).toNat)
    case atStart => exact ⟨0, Nat.zero_le _, rfl, World.grownBy.refl _ _⟩
    case round =>
      obtain ⟨i, hiX, rfl, hgw⟩ := hrel
      have hBL := (unhide HBL15).new (unhide hgw)
      have c4 := hBL.c4
      by_cases hlt : i < Xn
      · have hd1 : decide ((i : Int) < (Xn : Int)) = true := decide_eq_true (by omega)
        have hiX' : i < X.length := by rw [unhide HXN]; exact hlt
        clear c4 hBL
        obtain ⟨ao', cap', e1, hel⟩ := (unhide HBL15).cx
        obtain ⟨pb, poff, pu, e2, pcl, pq⟩ := hel i hiX'
        obtain ⟨e3, -, -⟩ := Value.slice.inj e1
        subst e3
        subst e2
        obtain ⟨qo, qc, rfl, qel⟩ := pq
        obtain ⟨Pn, HPN⟩ : ∃ Pn, Hid (X[i].length = Pn) := ⟨_, hide rfl⟩
        rw [unhide HPN] at pcl
        have HPC := hide pcl
        have HQE := hide qel
        have hPn : Pn ≤ 1048576 := by have h1 := (szR_el (szR lenI) X i hiX').2; have h2 := szR_len lenI X[i]; have h3 := unhide HSX; have h4 := unhide HPN; unfold szCo at h3; omega
        have c4 := ((unhide HBL15).new (unhide hgw)).c4
        have pcw := (unhide hgw).cell (unhide HPC) (by simp)
        clear e1 hel pcl qel
        go_wp2
        clear c4 pcw
        go_loopw [12] (fun kv wr => ∃ k : Nat, k ≤ Pn ∧ kv = .int .i64 k ∧ Hid (w15.grownBy wr none)) (fun kv _ => Pn - (intOf kv).toNat)
        case atStart => exact ⟨0, Nat.zero_le _, rfl, hgw⟩
        case round =>
          clear hgw
          obtain ⟨k, hkP, rfl, hgw⟩ := hrel
          have c4 := ((unhide HBL15).new (unhide hgw)).c4
          have pcw := (unhide hgw).cell (unhide HPC) (by simp)
          by_cases hkl : k < Pn
          · have hd2 : decide ((k : Int) < (Pn : Int)) = true := decide_eq_true (by omega)
            have hkX : k < X[i].length := by rw [unhide HPN]; exact hkl
            obtain ⟨qb, qoff, zu, e2, zcl, zq⟩ := unhide HQE k hkX
            subst e2
            obtain ⟨zo, zc, rfl, zr⟩ := zq
            obtain ⟨hiL, hjL, hoth⟩ := put_other (unhide HP) i k hiX' hkX
            obtain ⟨ao', cap', e1, hel⟩ := (unhide HX15).rd
            obtain ⟨rb, roff, ru, e3, rcl, rq⟩ := hel i hiL
            obtain ⟨e4, -, -⟩ := Value.slice.inj e1
            subst e4
            subst e3
            obtain ⟨sq, rc2, rfl, sel⟩ := rq
            obtain ⟨sb, soff, su, e5, scl, sq2⟩ := sel k hjL
            subst e5
            obtain ⟨vo, vc, rfl, vr⟩ := sq2
            obtain ⟨Lin, HLI⟩ : ∃ Lin, Hid (L[i].length = Lin) := ⟨_, hide rfl⟩
            obtain ⟨vn, HVN⟩ : ∃ vn, Hid (L[i][k].length = vn) := ⟨_, hide rfl⟩
            obtain ⟨zn, HZN⟩ : ∃ zn, Hid (X[i][k].length = zn) := ⟨_, hide rfl⟩
            have hkL : (k : Int) < (Lin : Int) := by have := unhide HLI; omega
            have hiLn : (i : Int) < (Ln : Int) := by have := unhide HLN; omega
            have hiXn : (i : Int) < (Xn : Int) := by omega
            have hkPn : (k : Int) < (Pn : Int) := by omega
            rw [unhide HLI] at rcl
            rw [unhide HVN] at scl vr
            rw [unhide HZN] at zcl zr
            have hlb : lenI X[i][k] ≤ 1048576 := by have h1 := (szR_el (szR lenI) X i hiX').2; have h2 := (szR_el lenI X[i] k hkX).2; have h3 := unhide HSX; unfold szCo at h3; omega
            have KEEP : Hid (∀ W, w15.grownBy W none → (W.cell? ⟨b5, 0, none⟩ = some (.int .i64 (c' : Int)) ∧ W.cell? ⟨b5, 1, none⟩ = some (.int .i64 (r : Int)) ∧ W.cell? ⟨b5, 2, none⟩ = some (.int .i64 (l : Int))) ∧ W.cell? ⟨b7, 0, none⟩ = some (.slice (some ⟨rb, roff, none⟩) Ln xc) ∧ W.cell? ⟨b4, 0, none⟩ = some (.slice (some ⟨pb, poff, none⟩) Xn pc) ∧ W.cell? ⟨rb, roff + i, none⟩ = some (.slice (some ⟨sb, soff, none⟩) Lin rc2) ∧ W.cell? ⟨sb, soff + k, none⟩ = some (.slice vo vn vc) ∧ W.cell? ⟨pb, poff + i, none⟩ = some (.slice (some ⟨qb, qoff, none⟩) Pn qc) ∧ W.cell? ⟨qb, qoff + k, none⟩ = some (.slice zo zn zc)) := fun W g => ⟨placeCells ((unhide HBL15).new g).f5, ((unhide HX15).new g).c, ((unhide HBL15).new g).c4, g.cell rcl (by simp), g.cell scl (by simp), g.cell (unhide HPC) (by simp), g.cell zcl (by simp)⟩
            have gK := grown_trans (unhide hgw) (grown_drew (World.grownBy.refl wr none))
            have SD := hide (unhide KEEP _ gK)
            have HVR : Hid (RdI .i64 wr.drew (.slice vo vn vc) L[i][k]) := ⟨vo, vc, by rw [unhide HVN], by rw [unhide HVN]; exact vr.grown gK⟩
            have HZB0 : Hid (RdI .i64 wr.drew (.slice zo zn zc) X[i][k]) := ⟨zo, zc, by rw [unhide HZN], by rw [unhide HZN]; exact zr.grown gK⟩
            have HOTH := hide hoth
            have HLB0 := hide hlb
            have HGK := hide gK
            have hm : r * bw ≤ 128 * 128 := Nat.mul_le_mul (by omega) (by omega)
            obtain ⟨rw', hrw⟩ : ∃ rw', r * bw = rw' := ⟨_, rfl⟩
            have e6 : (r : Int) * (bw : Int) = (rw' : Int) := by rw [← hrw]; simp
            have hkk : kk = rw' + l := by rw [← hrw]; exact unhide HKK
            rw [hrw] at hm
            have e7 := i64_in (rw' : Int) (by omega)
            have e8 := i64_in ((rw' : Int) + (l : Int)) (by omega)
            have HKK2 := hide hkk
            clear hgw vr zr hlb hoth gK e1 hel sel rcl scl zcl hrw hkk
            by_cases hic : i = c'
            · have hn1 : ((i : Int) != (c' : Int)) = false := by simp [hic]
              have HIC := hide hic
              clear hic
              by_cases hkc : k = kk
              · have hn2 : ((k : Int) != (rw' : Int) + (l : Int)) = false := by have h1 := unhide HKK2; have h2 : (k : Int) = (rw' : Int) + (l : Int) := by omega
                                                                                simp [h2]
                clear hkc
                go_wp2
                refine wp_region_noPanic ?_
                refine wp_region_tail (fun w' => (w'.cell? ⟨b5, 0, none⟩ = some (.int .i64 (c' : Int)) ∧ w'.cell? ⟨b5, 1, none⟩ = some (.int .i64 (r : Int)) ∧ w'.cell? ⟨b5, 2, none⟩ = some (.int .i64 (l : Int))) ∧ w'.cell? ⟨b7, 0, none⟩ = some (.slice (some ⟨rb, roff, none⟩) Ln xc) ∧ w'.cell? ⟨b4, 0, none⟩ = some (.slice (some ⟨pb, poff, none⟩) Xn pc) ∧ w'.cell? ⟨rb, roff + i, none⟩ = some (.slice (some ⟨sb, soff, none⟩) Lin rc2) ∧ w'.cell? ⟨sb, soff + k, none⟩ = some (.slice vo vn vc) ∧ w'.cell? ⟨pb, poff + i, none⟩ = some (.slice (some ⟨qb, qoff, none⟩) Pn qc) ∧ w'.cell? ⟨qb, qoff + k, none⟩ = some (.slice zo zn zc)) [true, true, true, true, true, true, true, true, true, true, true, true, true, true, true, true, true, true, true, true, true, true, true, true, true, true, true, true, true, true, true, true, false, false, false] (by kernel_rfl) (fun _ _ _ _ _ h => h) rfl (by kernel_rfl) (unhide SD) ?_
                iterate 16
                  refine heldF_take (v := ?_) (Or.inl ⟨by rfl, ?_⟩) ?_
                  rotate_left 1
                  · intro w' hSw
                    try dsimp only at hSw
                    obtain ⟨⟨z0, z1, z2⟩, z3, z4, z5, z6, z7, z8⟩ := hSw
                    go_simp
                    try with_reducible rfl
                  try simp only [Act.put, List.setIfInBounds_toArray, List.set_cons_zero, List.set_cons_succ]
                iterate 16
                  refine heldF_take (v := undef) (Or.inr ⟨by rfl, rfl⟩) ?_
                  try simp only [Act.put, List.setIfInBounds_toArray, List.set_cons_zero, List.set_cons_succ]
                iterate 3 refine heldF_skip ?_
                refine heldF_nil ?_
                iterate 32 refine tailF_skip ?_
                refine tailF_step (fun K hK => ?_)
                go_simp
                refine hK.out _ _ (unhide SD) ?_
                clear hK K
                refine tailF_step (fun K hK => ?_)
                go_simp
                refine hK.out _ _ (unhide SD) ?_
                clear hK K
                refine tailF_step (fun K hK => ?_)
                go_simp
                refine hK.out _ _ (unhide SD) ?_
                clear hK K
                refine tailF_nil (NoPanic.normal ?_)
                go_wp2
                go_roundw
                case rel => exact ⟨k + 1, by omega, by go_num, HGK⟩
                case measure => simp [intOf]; omega
              · have hn2 : ((k : Int) != (rw' : Int) + (l : Int)) = true := by have h1 := unhide HKK2; have h2 : (k : Int) ≠ (rw' : Int) + (l : Int) := by omega
                                                                               simp [h2]
                have hLX := unhide HOTH (fun h => hkc h.2)
                rw [hLX] at HVR
                obtain ⟨B, HBB⟩ : ∃ B, Hid (X[i][k] = B) := ⟨_, hide rfl⟩
                have HVB : Hid (RdI .i64 wr.drew (.slice vo vn vc) B) := by rw [← unhide HBB]; exact HVR
                have HZB : Hid (RdI .i64 wr.drew (.slice zo zn zc) B) := by rw [← unhide HBB]; exact HZB0
                have HLB : Hid (lenI B ≤ 1048576) := by rw [← unhide HBB]; exact HLB0
                clear hkc hLX HVR HZB0 HLB0
                go_wp2
                refine wp_region_noPanic ?_
                refine wp_region_tail (fun w' => (w'.cell? ⟨b5, 0, none⟩ = some (.int .i64 (c' : Int)) ∧ w'.cell? ⟨b5, 1, none⟩ = some (.int .i64 (r : Int)) ∧ w'.cell? ⟨b5, 2, none⟩ = some (.int .i64 (l : Int))) ∧ w'.cell? ⟨b7, 0, none⟩ = some (.slice (some ⟨rb, roff, none⟩) Ln xc) ∧ w'.cell? ⟨b4, 0, none⟩ = some (.slice (some ⟨pb, poff, none⟩) Xn pc) ∧ w'.cell? ⟨rb, roff + i, none⟩ = some (.slice (some ⟨sb, soff, none⟩) Lin rc2) ∧ w'.cell? ⟨sb, soff + k, none⟩ = some (.slice vo vn vc) ∧ w'.cell? ⟨pb, poff + i, none⟩ = some (.slice (some ⟨qb, qoff, none⟩) Pn qc) ∧ w'.cell? ⟨qb, qoff + k, none⟩ = some (.slice zo zn zc)) [true, true, true, true, true, true, true, true, true, true, true, true, true, true, true, true, true, true, true, true, true, true, true, true, true, true, true, true, true, true, true, true, false, false, false] (by kernel_rfl) (fun _ _ _ _ _ h => h) rfl (by kernel_rfl) (unhide SD) ?_
                iterate 32
                  refine heldF_take (v := ?_) (Or.inl ⟨by rfl, ?_⟩) ?_
                  rotate_left 1
                  · intro w' hSw
                    try dsimp only at hSw
                    obtain ⟨⟨z0, z1, z2⟩, z3, z4, z5, z6, z7, z8⟩ := hSw
                    go_simp
                    try with_reducible rfl
                  try simp only [Act.put, List.setIfInBounds_toArray, List.set_cons_zero, List.set_cons_succ]
                iterate 3 refine heldF_skip ?_
                refine heldF_nil ?_
                iterate 32 refine tailF_skip ?_
                refine tailF_step (fun K hK => ?_)
                go_simp
                refine (sameIntsC wr.drew (.slice vo vn vc) (.slice zo zn zc) B (unhide HVB) (unhide HZB) (unhide HLB)).mono ?_
                rintro e wz ⟨rfl, gz⟩
                have SZ := hide (unhide KEEP wz (grown_trans (unhide HGK) gz))
                have HGZ := hide (grown_trans (unhide HGK) gz)
                clear gz
                refine hK.out _ _ (unhide SZ) ?_
                clear hK K
                refine tailF_step (fun K hK => ?_)
                go_simp
                refine hK.out _ _ (unhide SZ) ?_
                clear hK K
                refine tailF_step (fun K hK => ?_)
                go_simp
                refine hK.out _ _ (unhide SZ) ?_
                clear hK K
                refine tailF_nil (NoPanic.normal ?_)
                go_wp2
                go_roundw
                case rel => exact ⟨k + 1, by omega, by go_num, HGZ⟩
                case measure => simp [intOf]; omega
            · have hn1 : ((i : Int) != (c' : Int)) = true := by have h2 : (i : Int) ≠ (c' : Int) := by omega
                                                                simp [h2]
              have hLX := unhide HOTH (fun h => hic h.1)
              rw [hLX] at HVR
              obtain ⟨B, HBB⟩ : ∃ B, Hid (X[i][k] = B) := ⟨_, hide rfl⟩
              have HVB : Hid (RdI .i64 wr.drew (.slice vo vn vc) B) := by rw [← unhide HBB]; exact HVR
              have HZB : Hid (RdI .i64 wr.drew (.slice zo zn zc) B) := by rw [← unhide HBB]; exact HZB0
              have HLB : Hid (lenI B ≤ 1048576) := by rw [← unhide HBB]; exact HLB0
              clear hic hLX HVR HZB0 HLB0
              go_wp2
              refine wp_region_noPanic ?_
              refine wp_region_tail (fun w' => (w'.cell? ⟨b5, 0, none⟩ = some (.int .i64 (c' : Int)) ∧ w'.cell? ⟨b5, 1, none⟩ = some (.int .i64 (r : Int)) ∧ w'.cell? ⟨b5, 2, none⟩ = some (.int .i64 (l : Int))) ∧ w'.cell? ⟨b7, 0, none⟩ = some (.slice (some ⟨rb, roff, none⟩) Ln xc) ∧ w'.cell? ⟨b4, 0, none⟩ = some (.slice (some ⟨pb, poff, none⟩) Xn pc) ∧ w'.cell? ⟨rb, roff + i, none⟩ = some (.slice (some ⟨sb, soff, none⟩) Lin rc2) ∧ w'.cell? ⟨sb, soff + k, none⟩ = some (.slice vo vn vc) ∧ w'.cell? ⟨pb, poff + i, none⟩ = some (.slice (some ⟨qb, qoff, none⟩) Pn qc) ∧ w'.cell? ⟨qb, qoff + k, none⟩ = some (.slice zo zn zc)) [true, true, true, true, true, true, true, true, true, true, true, true, true, true, true, true, true, true, true, true, true, true, true, true, true, true, true, true, true, true, true, true, false, false, false] (by kernel_rfl) (fun _ _ _ _ _ h => h) rfl (by kernel_rfl) (unhide SD) ?_
              iterate 5
                refine heldF_take (v := ?_) (Or.inl ⟨by rfl, ?_⟩) ?_
                rotate_left 1
                · intro w' hSw
                  try dsimp only at hSw
                  obtain ⟨⟨z0, z1, z2⟩, z3, z4, z5, z6, z7, z8⟩ := hSw
                  go_simp
                  try with_reducible rfl
                try simp only [Act.put, List.setIfInBounds_toArray, List.set_cons_zero, List.set_cons_succ]
              iterate 9
                refine heldF_take (v := undef) (Or.inr ⟨by rfl, rfl⟩) ?_
                try simp only [Act.put, List.setIfInBounds_toArray, List.set_cons_zero, List.set_cons_succ]
              iterate 18
                refine heldF_take (v := ?_) (Or.inl ⟨by rfl, ?_⟩) ?_
                rotate_left 1
                · intro w' hSw
                  try dsimp only at hSw
                  obtain ⟨⟨z0, z1, z2⟩, z3, z4, z5, z6, z7, z8⟩ := hSw
                  go_simp
                  try with_reducible rfl
                try simp only [Act.put, List.setIfInBounds_toArray, List.set_cons_zero, List.set_cons_succ]
              iterate 3 refine heldF_skip ?_
              refine heldF_nil ?_
              iterate 32 refine tailF_skip ?_
              refine tailF_step (fun K hK => ?_)
              go_simp
              refine (sameIntsC wr.drew (.slice vo vn vc) (.slice zo zn zc) B (unhide HVB) (unhide HZB) (unhide HLB)).mono ?_
              rintro e wz ⟨rfl, gz⟩
              have SZ := hide (unhide KEEP wz (grown_trans (unhide HGK) gz))
              have HGZ := hide (grown_trans (unhide HGK) gz)
              clear gz
              refine hK.out _ _ (unhide SZ) ?_
              clear hK K
              refine tailF_step (fun K hK => ?_)
              go_simp
              refine hK.out _ _ (unhide SZ) ?_
              clear hK K
              refine tailF_step (fun K hK => ?_)
              go_simp
              refine hK.out _ _ (unhide SZ) ?_
              clear hK K
              refine tailF_nil (NoPanic.normal ?_)
              go_wp2
              go_roundw
              case rel => exact ⟨k + 1, by omega, by go_num, HGZ⟩
              case measure => simp [intOf]; omega
          · obtain rfl : Pn = k := by omega
            have hd2 : decide ((Pn : Int) < (Pn : Int)) = false := decide_eq_false (by omega)
            go_wp2
            go_roundw
            case rel => exact ⟨i + 1, by omega, by go_num, hgw⟩
            case measure => simp [intOf]; omega
      · obtain rfl : Xn = i := by omega
        have hd1 : decide ((Xn : Int) < (Xn : Int)) = false := decide_eq_false (by omega)
        obtain ⟨E, HE0⟩ : ∃ E, Hid (emptyF true wd ht fn C = E) := ⟨_, rfl⟩
        have HSE : Hid (szCo E ≤ 1048576) := by have := shape_sz (shape_empty (wd := wd) (ht := ht) (unhide HFB)); rw [unhide HE0] at this; unfold Hid; omega
        have HOKE : Hid (coefsOkF true wd ht fn C E = true) := by unfold Hid; rw [← unhide HE0]; exact empty_ok wd ht fn C
        have gD := grown_trans (unhide hgw) (grown_drew (World.grownBy.refl wr none))
        have HBLD := hide ((unhide HBL15).new gD)
        have SD := hide (frameCells5 (unhide HBLD).f3)
        have HGD := hide (grown_trans (unhide HG15) gD)
        clear gD hBL
        go_wp2
        refine wp_region_noPanic ?_
        refine wp_region_raw (fun w' => w'.cell? ⟨b3, 0, none⟩ = some (.int .i64 p) ∧ w'.cell? ⟨b3, 1, none⟩ = some (.int .i64 wd) ∧ w'.cell? ⟨b3, 2, none⟩ = some (.int .i64 ht) ∧ w'.cell? ⟨b3, 3, none⟩ = some (.int .i64 rs) ∧ w'.cell? ⟨b3, 4, none⟩ = some (.slice fo fn fc)) [true, false, true, false, false, false, false, false, false, false, false, false] (by kernel_rfl) (fun _ _ _ _ _ h => h) rfl (by kernel_rfl) (unhide SD) ?_
        refine heldF_take (v := ?_) (Or.inl ⟨by rfl, ?_⟩) ?_
        rotate_left 1
        · intro w' hSw
          try dsimp only at hSw
          obtain ⟨z0, z1, z2, z3, z4⟩ := hSw
          go_simp
          try with_reducible rfl
        try simp only [Act.put, List.setIfInBounds_toArray, List.set_cons_zero, List.set_cons_succ]
        refine heldF_skip ?_
        refine heldF_take (v := ?_) (Or.inl ⟨by rfl, ?_⟩) ?_
        rotate_left 1
        · intro w' hSw
          try dsimp only at hSw
          obtain ⟨z0, z1, z2, z3, z4⟩ := hSw
          go_simp
          try with_reducible rfl
        try simp only [Act.put, List.setIfInBounds_toArray, List.set_cons_zero, List.set_cons_succ]
        iterate 9 refine heldF_skip ?_
        refine heldF_nil ?_
        refine anyH_step1 (i := 1) rfl (by kernel_rfl) (fun K hK => ?_)
        go_simp
        refine (unhide HEE p wd ht rs fo fn fc C wr.drew (unhide HBLD).rc (by omega) true HFB E HE0).mono ?_
        rintro e wa ⟨ua, Fa, rfl, oa, -, -, ga⟩
        have HBLA := hide ((unhide HBLD).new ga)
        have SA := hide (frameCells5 (unhide HBLA).f3)
        have HGA := hide (grown_trans (unhide HGD) ga)
        have HOA := hide oa
        clear ga oa HBLD SD HGD
        go_simp
        refine hK.out _ _ (unhide SA) ?_
        clear hK K
        try simp only [Act.put, List.setIfInBounds_toArray, List.set_cons_zero, List.set_cons_succ]
        refine anyH_step1 (i := 3) rfl (by kernel_rfl) (fun K hK => ?_)
        go_simp
        refine (specEmpty p wd ht rs fo fn fc C wa (unhide HBLA).rc true HFB E HE0).mono ?_
        rintro e wb ⟨ub, Fb, rfl, ob, -, -, gb⟩
        have HBLB := hide ((unhide HBLA).new gb)
        have SB := hide (frameCells5 (unhide HBLB).f3)
        have HGB := hide (grown_trans (unhide HGA) gb)
        have HOB := hide ob.rd
        have HOA2 := hide ((unhide HOA).keep gb).rd
        clear gb ob HBLA SA HGA HOA
        go_simp
        refine hK.out _ _ (unhide SB) ?_
        clear hK K
        try simp only [Act.put, List.setIfInBounds_toArray, List.set_cons_zero, List.set_cons_succ]
        refine anyH_step1 (i := 4) rfl (by kernel_rfl) (fun K hK => ?_)
        go_simp
        refine (sameCoefsC wb ua ub E (unhide HOA2) (unhide HOB) (unhide HSE)).mono ?_
        rintro e wc' ⟨rfl, gc'⟩
        have HBLC := hide ((unhide HBLB).new gc')
        have SC := hide (frameCells5 (unhide HBLC).f3)
        have HGC := hide (grown_trans (unhide HGB) gc')
        clear gc' HBLB SB HGB HOB HOA2
        go_simp
        refine hK.out _ _ (unhide SC) ?_
        clear hK K
        try simp only [Act.put, List.setIfInBounds_toArray, List.set_cons_zero, List.set_cons_succ]
        refine anyH_step1 (i := 5) rfl (by kernel_rfl) (fun K hK => ?_)
        go_simp
        refine hK.out _ _ (unhide SC) ?_
        clear hK K
        try simp only [Act.put, List.setIfInBounds_toArray, List.set_cons_zero, List.set_cons_succ]
        refine anyH_take1 (i := 6) (v := ?_) rfl (by kernel_rfl) (fun _ _ _ _ _ h => h) (unhide SC) (Or.inl ⟨by rfl, ?_⟩) ?_
        rotate_left 1
        · intro w' hSw
          try dsimp only at hSw
          obtain ⟨z0, z1, z2, z3, z4⟩ := hSw
          go_simp
          try with_reducible rfl
        try simp only [Act.put, List.setIfInBounds_toArray, List.set_cons_zero, List.set_cons_succ]
        refine anyH_take1 (i := 7) (v := ?_) rfl (by kernel_rfl) (fun _ _ _ _ _ h => h) (unhide SC) (Or.inl ⟨by rfl, ?_⟩) ?_
        rotate_left 1
        · intro w' hSw
          try dsimp only at hSw
          obtain ⟨z0, z1, z2, z3, z4⟩ := hSw
          go_simp
          try with_reducible rfl
        try simp only [Act.put, List.setIfInBounds_toArray, List.set_cons_zero, List.set_cons_succ]
        refine anyH_step1 (i := 8) rfl (by kernel_rfl) (fun K hK => ?_)
        go_simp
        refine (unhide HEE p wd ht rs fo fn fc C wc' (unhide HBLC).rc (by omega) true HFB E HE0).mono ?_
        rintro e we ⟨ue, Fe, rfl, oe, -, -, ge⟩
        obtain ⟨ev, rfl, oe⟩ := oe
        have HBLE := hide ((unhide HBLC).new ge)
        have SE := hide (frameCells5 (unhide HBLE).f3)
        have HGE := hide (grown_trans (unhide HGC) ge)
        have HOE := hide (Ow3.rd oe)
        clear ge oe HBLC SC HGC
        go_simp
        refine hK.out _ _ (unhide SE) ?_
        clear hK K
        try simp only [Act.put, List.setIfInBounds_toArray, List.set_cons_zero, List.set_cons_succ]
        refine anyH_step1 (i := 9) rfl (by kernel_rfl) (fun K hK => ?_)
        go_simp
        refine (unhide HCC p wd ht rs fo fn fc C ev E we (unhide HBLE).rc (by omega) (unhide HOE) (unhide HSE) true true HFB HOKE).mono ?_
        rintro e wf ⟨rfl, gf⟩
        have SF := hide (frameCells5 ((unhide HBLE).new gf).f3)
        have HGF := hide (grown_trans (unhide HGE) gf)
        clear gf HBLE SE HGE
        go_simp
        refine hK.out _ _ (unhide SF) ?_
        clear hK K
        try simp only [Act.put, List.setIfInBounds_toArray, List.set_cons_zero, List.set_cons_succ]
        refine anyH_step1 (i := 10) rfl (by kernel_rfl) (fun K hK => ?_)
        go_simp
        refine hK.out _ _ (unhide SF) ?_
        clear hK K
        try simp only [Act.put, List.setIfInBounds_toArray, List.set_cons_zero, List.set_cons_succ]
        refine anyH_step1 (i := 11) rfl (by kernel_rfl) (fun K hK => ?_)
        go_simp
        refine hK.out _ _ (unhide SF) ?_
        clear hK K
        try simp only [Act.put, List.setIfInBounds_toArray, List.set_cons_zero, List.set_cons_succ]
        refine wpAnyH_done (by kernel_rfl) (NoPanic.normal ?_) _
        go_wp2
        go_ret
        exact ⟨rfl, unhide HGF⟩

theorem lawBlocks (HE : ImplEmpty) (HC : ImplCoefsOk) (HA : ImplBlockAt) (HW : ImplWith) (ao : Option Addr) (n cap : Nat) (zs : List Int) (w : World) (hr : Rd .u8 w ao n zs) (hb : ∀ i, 0 ≤ zs.getD i 0 ∧ zs.getD i 0 ≤ 255) :
    Calls Try.prog 3 #[.slice ao n cap] w fun e w' => e = .returned (.bool true) ∧ Below w.heap.size w w' := by
  by_cases hn : n ≤ 1048576
  · refine (lawBlocks_in HE HC HA HW ao n cap zs w hr hb hn).mono ?_
    rintro e w' ⟨rfl, g⟩
    exact ⟨rfl, grown_below g⟩
  · clear hr hb HE HC HA HW
    go_enter Try.func3, Try.ntmps3
    go_wp2_with fail
    refine (lawBig ao n cap true w (by unfold Hid; simp; omega)).mono ?_
    rintro e w0 ⟨rfl, rfl⟩
    go_wp2
    go_ret
    exact ⟨rfl, grown_below (World.grownBy.refl _ _)⟩

end Go.Proofs.Ytibgldanmhckiaa

namespace Go.Proofs.Ytibgldanmhckiaa
open Go.RowKit Go.Shelf

/-- All blocks lie as they lay, but those of O. -/
structure But (O : Nat → Prop) (W W' : World) : Prop where
  os : W'.os = W.os
  tape : W'.tape = W.tape
  output : W'.output = W.output
  size : W.heap.size ≤ W'.heap.size
  block : ∀ k, k < W.heap.size → ¬ O k → W'.heap[k]? = W.heap[k]?
theorem But.refl (O : Nat → Prop) (W : World) : But O W W := ⟨rfl, rfl, rfl, Nat.le_refl _, fun _ _ _ => rfl⟩
theorem But.trans {O : Nat → Prop} {A B C : World} (h : But O A B) (g : But O B C) : But O A C :=
  ⟨g.os.trans h.os, g.tape.trans h.tape, g.output.trans h.output, Nat.le_trans h.size g.size, fun k hk ho => (g.block k (Nat.lt_of_lt_of_le hk h.size) ho).trans (h.block k hk ho)⟩
theorem But.of_grown {O : Nat → Prop} {W W' : World} {row : Option Nat} (h : W.grownBy W' row) (hr : ∀ g, row = some g → O g) : But O W W' :=
  ⟨h.os, h.tape, h.output, h.size, fun k hk ho => h.block k hk (fun e => ho (hr k e.symm))⟩
theorem But.mono {O O' : Nat → Prop} {W W' : World} (h : But O W W') (ho : ∀ k, O k → O' k) : But O' W W' := ⟨h.os, h.tape, h.output, h.size, fun k hk hn => h.block k hk (fun e => hn (ho k e))⟩
theorem But.putObj {O : Nat → Prop} (W : World) (l : Nat) (o : Obj) (hl : O l) : But O W (W.putObj l o) := But.of_grown (grownBy_putObj' W l o) (fun g e => by cases e; exact hl)

/-- What speaks of the blocks of O alone. -/
def LocalJ {α : Type} (O : Nat → Prop) (J : List α → World → Prop) : Prop := ∀ pre W W', J pre W → (∀ k, O k → W'.heap[k]? = W.heap[k]?) → J pre W'

/-- What an iterator gives a loop whose body always goes on and writes into the blocks of O alone: all of S, in its order. -/
def Gives {α : Type} (P : Program) (g : Nat) (lb : Array Value) (encs : α → Array Value) (S : List α) (O : Nat → Prop) (w : World) : Prop :=
  ∀ (n l : Nat) (J : List α → World → Prop) (W : World), But O w W → (∀ k, O k → k < W.heap.size) → l < W.heap.size → ¬ O l → w.heap.size ≤ l → LocalJ (fun k => O k ∨ k = l) J →
    (∀ pre x W1 m, J pre W1 → But (fun k => O k ∨ k = l) W W1 → pre ++ [x] <+: S → YieldAt Fence.wide m P l (encs x) W1 fun e W' => e = .returned (.bool true) ∧ J (pre ++ [x]) W' ∧ But (fun k => O k ∨ k = l) W1 W') → J [] W →
    CallsIn Fence.wide n P g (#[.func (.yield l) #[] #[]] ++ lb) W fun e W' => (∃ v, e = .returned v) ∧ J S W' ∧ But (fun k => O k ∨ k = l) W W'

/-- How the body of a round is left. -/
def goesOn (R : World → Prop) : Exit → Act → World → Prop
  | .normal, _, W' => R W'
  | _, _, _ => False

theorem rangeFunc_gives {α : Type} {n : Nat} {P : Program} {g : Operand} {ps : Array Tmp} {assign body : Code} {Q : Exit → Act → World → Prop} {a : Act} {w : World}
    {gf : Nat} {lb : Array Value} (hg : a.eval g = .func (.func gf) #[] lb) (eg : ∀ args w, (callFunc gf args).run P w = .ok (.enter gf args) w)
    {encs : α → Array Value} {S : List α} {O : Nat → Prop} (hO : ∀ k, O k → k < w.heap.size) (hG : Gives P gf lb encs S O w) (hps : ∀ x, (encs x).size = ps.size)
    (I : List α → World → Prop) (hI : LocalJ O I) (h0 : I [] w) (a₁ : α → Act)
    (hassign : ∀ (l m : Nat) (x : α) (W : World) (K : Act → World → Prop), K (a₁ x) W →
      assign.wpIn (Fence.wide.inRound l) m P (Exit.then K (fun _ _ _ => False)) { tmps := (ps.zip (encs x)).foldl (fun t (p, v) => t.setIfInBounds p v) a.tmps, defers := [] } W)
    (hbody : ∀ (l m : Nat) (pre : List α) (x : α) (W : World), I pre W → But O w W → pre ++ [x] <+: S → body.wpIn (Fence.wide.inRound l) m P (goesOn fun W' => I (pre ++ [x]) W' ∧ But O W W') (a₁ x) W)
    (hdone : ∀ (D : Nat) (W : World), w.heap.size ≤ D → I S W → But O w W → W.heap[D]? = some (.deferred (some [])) → Q .normal { a with defers := { target := .collected D, args := #[] } :: a.defers } W) :
    (Code.rangeFunc g ps assign body).wpIn Fence.wide n P Q a w := by
  refine wpIn_rangeFunc ?_
  intro fn hfn
  obtain ⟨R, hR⟩ : ∃ R : LoopState → Loop, R = fun st => { state := st, pending := none, fn, tmps := a.tmps, params := ps, assign, body, defers := w.heap.size } := ⟨_, rfl⟩
  obtain ⟨l, hl⟩ : ∃ l, w.heap.size + 1 = l := ⟨_, rfl⟩
  obtain ⟨W1, hW1⟩ : ∃ W1, (w.alloc (.deferred (some []))).alloc (.loop (R .ready)) = W1 := ⟨_, rfl⟩
  have hs1 : W1.heap.size = w.heap.size + 2 := by rw [← hW1]; simp
  have hOl : ¬ O l := fun e => by have := hO l e; omega
  have hOD : ¬ O w.heap.size := fun e => by have := hO _ e; omega
  have hL1 : W1.heap[l]? = some (.loop (R .ready)) := by
    rw [← hW1, ← hl]; have := World.alloc_heap_new (w.alloc (.deferred (some []))) (.loop (R .ready)); rwa [World.size_alloc] at this
  have hD1 : W1.heap[w.heap.size]? = some (.deferred (some [])) := by
    rw [← hW1]; exact (Below.heap_alloc _ _ _ (by simp)).trans (World.alloc_heap_new w _)
  have b1 : ∀ O', But O' w W1 := fun O' => by
    rw [← hW1]; exact But.of_grown (grown_alloc (grown_alloc (World.grownBy.refl w none) _) _) (fun g e => by cases e)
  have hI1 : I [] W1 := hI _ _ _ h0 (fun k hk => (b1 (fun _ => False)).block k (hO k hk) (fun e => e))
  refine ⟨l, [{ target := .collected w.heap.size, args := #[] }], W1, { target := .fn (.func gf) lb, args := #[.func (.yield l) #[] #[]] }, W1, gf, #[.func (.yield l) #[] #[]] ++ lb, W1, ?_, ?_, fun _ _ => trivial, ?_, (fun h => by simp [Fence.wide] at h), ?_⟩
  · rw [← hW1, ← hl, hR]; exact run_enterLoop_outer _ _ _ _ _
  · simp only [resolve, hg]
    simp [go_sem]
  · simp [invoke, go_sem, eg]
  · have loc : LocalJ (fun k => O k ∨ k = l) (fun pre W => I pre W ∧ W.heap[l]? = some (.loop (R .ready))) := fun pre W W' h hk => ⟨hI _ _ _ h.1 (fun k ok => hk k (.inl ok)), (hk l (.inr rfl)).trans h.2⟩
    refine (hG (n - 1) l _ W1 (b1 O) (fun k hk => by have := hO k hk; omega) (by omega) hOl (by omega) loc ?_ ⟨hI1, hL1⟩).mono ?_
    · rintro pre x W m ⟨hi, hlW⟩ bW hlen
      have hlt : l < W.heap.size := (Array.getElem?_eq_some_iff.1 hlW).1
      have hy := run_yield (P := P) (args := encs x) hlW (by rw [hR]; exact hps x)
      rw [hR] at hy
      refine ⟨fn, _, assign, body, hy, roundIn_of_wpIn hfn (hassign l m x W _ ⟨_, run_beginRound hlW (by rw [hR]), ?_⟩)⟩
      clear hy
      obtain ⟨W2, hW2⟩ : ∃ W2, W.putObj l (.loop { R .ready with state := .busy }) = W2 := ⟨_, rfl⟩
      rw [hW2]
      have hl2 : W2.heap[l]? = some (.loop { R .ready with state := .busy }) := by rw [← hW2]; exact World.putObj_heap_same hlt
      have b2 : But (fun k => O k ∨ k = l) W W2 := by rw [← hW2]; exact But.putObj W l _ (.inr rfl)
      have hi2 : I pre W2 := hI _ _ _ hi (fun k hk => by rw [← hW2]; exact World.putObj_heap_other (fun e => hOl (by rw [← e]; exact hk)))
      have bw2 : But O w W2 := by
        have h := bW.trans b2
        exact ⟨h.os.trans (b1 O).os, h.tape.trans (b1 O).tape, h.output.trans (b1 O).output, Nat.le_trans (b1 O).size h.size, fun k hk ho => (h.block k (by omega) (fun e => by rcases e with e | e; exact ho e; omega)).trans ((b1 O).block k hk ho)⟩
      refine wpIn_mono (hbody l m pre x W2 hi2 bw2 hlen) ?_
      rintro e a3 W3 hp
      cases e with
      | normal =>
        obtain ⟨hi3, b3⟩ := hp
        have hl3 : W3.heap[l]? = some (.loop { R .ready with state := .busy }) := (b3.block l (Array.getElem?_eq_some_iff.1 hl2).1 hOl).trans hl2
        have hlt3 : l < W3.heap.size := (Array.getElem?_eq_some_iff.1 hl3).1
        have he := run_endRound (P := P) none hl3
        have hi4 : I (pre ++ [x]) (W3.putObj l (.loop (R .ready))) := hI _ _ _ hi3 (fun k hk => World.putObj_heap_other (fun e => hOl (by rw [← e]; exact hk)))
        have hl4 : (W3.putObj l (.loop (R .ready))).heap[l]? = some (.loop (R .ready)) := World.putObj_heap_same hlt3
        refine ⟨_, _, ?_, rfl, ⟨hi4, hl4⟩, (b2.trans (b3.mono (fun k hk => .inl hk))).trans (But.putObj W3 l _ (.inr rfl))⟩
        rw [hR] at he ⊢
        exact he
      | ret => exact hp.elim
      | exit id => exact hp.elim
      | goto t => exact hp.elim
      | panic ch => exact hp.elim
      | outgrown => exact hp.elim
    · rintro e W5 ⟨⟨v, rfl⟩, ⟨hi5, hl5⟩, b5⟩
      have hD5 : W5.heap[w.heap.size]? = some (.deferred (some [])) := (b5.block w.heap.size (by omega) (fun e => by rcases e with e | e; exact hOD e; omega)).trans hD1
      have he := run_endLoop (P := P) hl5 (by rw [hR]; simp)
      refine ⟨none, _, by rw [hR] at he; exact he, hdone w.heap.size _ (Nat.le_refl _) (hI _ _ _ hi5 (fun k hk => World.putObj_heap_other (fun e => hOl (by rw [← e]; exact hk)))) ?_ ((World.putObj_heap_other (by omega)).trans hD5)⟩
      have b6 : ∀ o, But (fun k => O k ∨ k = l) W1 (W5.putObj l o) := fun o => b5.trans (But.putObj W5 l o (.inr rfl))
      exact ⟨(b6 _).os.trans (b1 O).os, (b6 _).tape.trans (b1 O).tape, (b6 _).output.trans (b1 O).output, Nat.le_trans (b1 O).size (b6 _).size, fun k hk ho => ((b6 _).block k (by omega) (fun e => by rcases e with e | e; exact ho e; omega)).trans ((b1 O).block k hk ho)⟩

/-- The same inside a round of another loop. -/
theorem rangeFunc_gives_in {α : Type} {n : Nat} {P : Program} {g : Operand} {ps : Array Tmp} {assign body : Code} {Q : Exit → Act → World → Prop} {a : Act} {w : World} {l₀ : Nat} {r₀ : Loop} (hl₀ : w.heap[l₀]? = some (.loop r₀))
    {gf : Nat} {lb : Array Value} (hg : a.eval g = .func (.func gf) #[] lb) (eg : ∀ args w, (callFunc gf args).run P w = .ok (.enter gf args) w)
    {encs : α → Array Value} {S : List α} {O : Nat → Prop} (hO : ∀ k, O k → k < w.heap.size) (hG : Gives P gf lb encs S O w) (hps : ∀ x, (encs x).size = ps.size)
    (I : List α → World → Prop) (hI : LocalJ O I) (h0 : I [] w) (a₁ : α → Act)
    (hassign : ∀ (l m : Nat) (x : α) (W : World) (K : Act → World → Prop), K (a₁ x) W →
      assign.wpIn ((Fence.wide.inRound l₀).inRound l) m P (Exit.then K (fun _ _ _ => False)) { tmps := (ps.zip (encs x)).foldl (fun t (p, v) => t.setIfInBounds p v) a.tmps, defers := [] } W)
    (hbody : ∀ (l m : Nat) (pre : List α) (x : α) (W : World), I pre W → But O w W → pre ++ [x] <+: S → body.wpIn ((Fence.wide.inRound l₀).inRound l) m P (goesOn fun W' => I (pre ++ [x]) W' ∧ But O W W') (a₁ x) W)
    (hdone : ∀ (W : World), I S W → But O w W → Q .normal a W) :
    (Code.rangeFunc g ps assign body).wpIn (Fence.wide.inRound l₀) n P Q a w := by
  refine wpIn_rangeFunc ?_
  intro fn hfn
  obtain ⟨R, hR⟩ : ∃ R : LoopState → Loop, R = fun st => { state := st, pending := none, fn, tmps := a.tmps, params := ps, assign, body, defers := r₀.defers } := ⟨_, rfl⟩
  obtain ⟨l, hl⟩ : ∃ l, w.heap.size = l := ⟨_, rfl⟩
  obtain ⟨W1, hW1⟩ : ∃ W1, w.alloc (.loop (R .ready)) = W1 := ⟨_, rfl⟩
  have hs1 : W1.heap.size = w.heap.size + 1 := by rw [← hW1]; simp
  have hOl : ¬ O l := fun e => by have := hO l e; omega
  have hL1 : W1.heap[l]? = some (.loop (R .ready)) := by rw [← hW1, ← hl]; exact World.alloc_heap_new w _
  have b1 : ∀ O', But O' w W1 := fun O' => by
    rw [← hW1]; exact But.of_grown (grown_alloc (World.grownBy.refl w none) _) (fun g e => by cases e)
  have hI1 : I [] W1 := hI _ _ _ h0 (fun k hk => (b1 (fun _ => False)).block k (hO k hk) (fun e => e))
  refine ⟨l, [], W1, { target := .fn (.func gf) lb, args := #[.func (.yield l) #[] #[]] }, W1, gf, #[.func (.yield l) #[] #[]] ++ lb, W1, ?_, ?_, fun _ _ => trivial, ?_, (fun h => by simp [Fence.wide, Fence.inRound] at h), ?_⟩
  · rw [← hW1, ← hl, hR]; exact run_enterLoop_inner hl₀ _ _ _ _ _
  · simp only [resolve, hg]
    simp [go_sem]
  · simp [invoke, go_sem, eg]
  · have loc : LocalJ (fun k => O k ∨ k = l) (fun pre W => I pre W ∧ W.heap[l]? = some (.loop (R .ready))) := fun pre W W' h hk => ⟨hI _ _ _ h.1 (fun k ok => hk k (.inl ok)), (hk l (.inr rfl)).trans h.2⟩
    refine (CallsIn.inRound l₀ (hG (n - 1) l _ W1 (b1 O) (fun k hk => by have := hO k hk; omega) (by omega) hOl (by omega) loc ?_ ⟨hI1, hL1⟩)).mono ?_
    · rintro pre x W m ⟨hi, hlW⟩ bW hlen
      have hlt : l < W.heap.size := (Array.getElem?_eq_some_iff.1 hlW).1
      have hy := run_yield (P := P) (args := encs x) hlW (by rw [hR]; exact hps x)
      rw [hR] at hy
      refine ⟨fn, _, assign, body, hy, roundIn_of_wpIn (F := Fence.wide.inRound l₀) hfn (hassign l m x W _ ⟨_, run_beginRound hlW (by rw [hR]), ?_⟩)⟩
      clear hy
      obtain ⟨W2, hW2⟩ : ∃ W2, W.putObj l (.loop { R .ready with state := .busy }) = W2 := ⟨_, rfl⟩
      rw [hW2]
      have hl2 : W2.heap[l]? = some (.loop { R .ready with state := .busy }) := by rw [← hW2]; exact World.putObj_heap_same hlt
      have b2 : But (fun k => O k ∨ k = l) W W2 := by rw [← hW2]; exact But.putObj W l _ (.inr rfl)
      have hi2 : I pre W2 := hI _ _ _ hi (fun k hk => by rw [← hW2]; exact World.putObj_heap_other (fun e => hOl (by rw [← e]; exact hk)))
      have bw2 : But O w W2 := by
        have h := bW.trans b2
        exact ⟨h.os.trans (b1 O).os, h.tape.trans (b1 O).tape, h.output.trans (b1 O).output, Nat.le_trans (b1 O).size h.size, fun k hk ho => (h.block k (by omega) (fun e => by rcases e with e | e; exact ho e; omega)).trans ((b1 O).block k hk ho)⟩
      refine wpIn_mono (hbody l m pre x W2 hi2 bw2 hlen) ?_
      rintro e a3 W3 hp
      cases e with
      | normal =>
        obtain ⟨hi3, b3⟩ := hp
        have hl3 : W3.heap[l]? = some (.loop { R .ready with state := .busy }) := (b3.block l (Array.getElem?_eq_some_iff.1 hl2).1 hOl).trans hl2
        have hlt3 : l < W3.heap.size := (Array.getElem?_eq_some_iff.1 hl3).1
        have he := run_endRound (P := P) none hl3
        have hi4 : I (pre ++ [x]) (W3.putObj l (.loop (R .ready))) := hI _ _ _ hi3 (fun k hk => World.putObj_heap_other (fun e => hOl (by rw [← e]; exact hk)))
        have hl4 : (W3.putObj l (.loop (R .ready))).heap[l]? = some (.loop (R .ready)) := World.putObj_heap_same hlt3
        refine ⟨_, _, ?_, rfl, ⟨hi4, hl4⟩, (b2.trans (b3.mono (fun k hk => .inl hk))).trans (But.putObj W3 l _ (.inr rfl))⟩
        rw [hR] at he ⊢
        exact he
      | ret => exact hp.elim
      | exit id => exact hp.elim
      | goto t => exact hp.elim
      | panic ch => exact hp.elim
      | outgrown => exact hp.elim
    · rintro e W5 ⟨⟨v, rfl⟩, ⟨hi5, hl5⟩, b5⟩
      have he := run_endLoop (P := P) hl5 (by rw [hR]; simp)
      have b6 : ∀ o, But (fun k => O k ∨ k = l) W1 (W5.putObj l o) := fun o => b5.trans (But.putObj W5 l o (.inr rfl))
      exact ⟨none, _, by rw [hR] at he; exact he, hdone _ (hI _ _ _ hi5 (fun k hk => World.putObj_heap_other (fun e => hOl (by rw [← e]; exact hk))))
        ⟨(b6 _).os.trans (b1 O).os, (b6 _).tape.trans (b1 O).tape, (b6 _).output.trans (b1 O).output, Nat.le_trans (b1 O).size (b6 _).size, fun k hk ho => ((b6 _).block k (by omega) (fun e => by rcases e with e | e; exact ho e; omega)).trans ((b1 O).block k hk ho)⟩⟩

end Go.Proofs.Ytibgldanmhckiaa

namespace Go.Proofs.Ytibgldanmhckiaa
open Go.RowKit Go.Shelf

attribute [local go_sem] Oper.semAt_some

/-- The first k columns of a row. -/
def sCol (r : Nat) : Nat → List (Nat × Nat)
  | 0 => []
  | k + 1 => sCol r k ++ [(r, k)]
/-- The first r rows of W columns. -/
def sTo (W : Nat) : Nat → List (Nat × Nat)
  | 0 => []
  | r + 1 => sTo W r ++ sCol r W
theorem sCol_len (r : Nat) : ∀ k, (sCol r k).length = k
  | 0 => rfl
  | k + 1 => by simp [sCol, sCol_len r k]
theorem sTo_len (W : Nat) : ∀ r, (sTo W r).length = r * W
  | 0 => by simp [sTo]
  | r + 1 => by simp [sTo, sTo_len W r, sCol_len, Nat.succ_mul]
theorem sCol_pre (r : Nat) {k m : Nat} (h : k ≤ m) : sCol r k <+: sCol r m := by
  induction m with
  | zero => obtain rfl : k = 0 := by omega
            exact List.prefix_refl _
  | succ m ih =>
    by_cases e : k = m + 1
    · subst e; exact List.prefix_refl _
    · exact (ih (by omega)).trans (List.prefix_append _ _)
theorem sTo_pre (W : Nat) {k m : Nat} (h : k ≤ m) : sTo W k <+: sTo W m := by
  induction m with
  | zero => obtain rfl : k = 0 := by omega
            exact List.prefix_refl _
  | succ m ih =>
    by_cases e : k = m + 1
    · subst e; exact List.prefix_refl _
    · exact (ih (by omega)).trans (List.prefix_append _ _)
/-- Where a row is not at its end, what has come and one more is a beginning of all. -/
theorem spot_pre {W H r k : Nat} (hr : r < H) (hk : k < W) : sTo W r ++ sCol r k ++ [(r, k)] <+: sTo W H := by
  have h1 : sTo W r ++ sCol r (k + 1) <+: sTo W (r + 1) := (List.prefix_append_right_inj _).2 (sCol_pre r (by omega))
  rw [List.append_assoc]
  exact h1.trans (sTo_pre W (by omega))

theorem sCol_mem {r k : Nat} {x : Nat × Nat} : x ∈ sCol r k → x.1 = r ∧ x.2 < k := by
  induction k with
  | zero => intro h; simp [sCol] at h
  | succ k ih =>
    intro h
    simp only [sCol, List.mem_append, List.mem_singleton] at h
    rcases h with h | h
    · have := ih h; omega
    · subst h; simp
theorem sTo_mem {W r : Nat} {x : Nat × Nat} : x ∈ sTo W r → x.1 < r ∧ x.2 < W := by
  induction r with
  | zero => intro h; simp [sTo] at h
  | succ r ih =>
    intro h
    simp only [sTo, List.mem_append] at h
    rcases h with h | h
    · have := ih h; omega
    · have := sCol_mem h; omega

set_option maxRecDepth 100000 in
set_option maxHeartbeats 1600000 in
theorem spots1_in (F : Fence) (n : Nat) (hf : F.fn 115) (hro : F.round = none) (hn : 1 ≤ n) (l Bn wd ht : Nat) (hwd : wd ≤ 4096) (hht : ht ≤ 4096) (J Jx : List (Nat × Nat) → World → Prop)
    (hY : ∀ pre (x : Nat × Nat) W, J pre W → pre ++ [x] <+: sTo wd ht → YieldAt F (n - 1) Try.prog l #[.int .i64 (x.1 : Int), .int .i64 (x.2 : Int)] W fun e W' =>
      (e = .returned (.bool true) ∧ J (pre ++ [x]) W' ∧ W'.heap[Bn]? = W.heap[Bn]?) ∨ (e = .returned (.bool false) ∧ Jx (pre ++ [x]) W'))
    (W : World) (hBn : W.heap[Bn]? = some (.cells #[.int .i64 (wd : Int), .int .i64 (ht : Int)] 115 (0, 0))) (h0 : J [] W) :
    CallsIn F n Try.prog 115 #[.func (.yield l) #[] #[], .pointer (some ⟨Bn, 0, none⟩)] W fun e W' => (∃ v, e = .returned v) ∧
      ((∃ ys, ys = sTo wd ht ∧ J ys W') ∨ (∃ pre, pre <+: sTo wd ht ∧ Jx pre W')) := by
  refine callsIn_of_wp Try.func115 rfl hf ?_ hro
  simp only [Try.ntmps115, List.size_toArray, List.length_cons, List.length_nil, Nat.reduceAdd, Nat.reduceSub, Array.replicate_succ, Array.replicate_zero, List.push_toArray, List.append_toArray, List.nil_append, List.cons_append]
  have cb := areaCells hBn
  gi_wp2
  gi_loopw [7] (fun i wr => ∃ r : Nat, r ≤ ht ∧ i = .int .i64 r ∧ J (sTo wd r) wr ∧ wr.heap[Bn]? = some (.cells #[.int .i64 (wd : Int), .int .i64 (ht : Int)] 115 (0, 0))) (fun i _ => ht - (intOf i).toNat)
  case atStart => exact ⟨0, Nat.zero_le _, rfl, h0, hBn⟩
  case round =>
    obtain ⟨r, hr, rfl, hJr, hbr⟩ := hrel
    by_cases hlt : r < ht
    · have cr := areaCells hbr
      gi_wp2
      gi_loopw [12] (fun i wr => ∃ k : Nat, k ≤ wd ∧ i = .int .i64 k ∧ J (sTo wd r ++ sCol r k) wr ∧ wr.heap[Bn]? = some (.cells #[.int .i64 (wd : Int), .int .i64 (ht : Int)] 115 (0, 0))) (fun i _ => wd - (intOf i).toNat)
      case atStart => exact ⟨0, Nat.zero_le _, rfl, by rw [sCol, List.append_nil]; exact hJr, hbr⟩
      case round =>
        obtain ⟨k, hk, rfl, hJk, hbk⟩ := hrel
        by_cases hltk : k < wd
        · have hlen := spot_pre (W := wd) (H := ht) hlt hltk
          obtain ⟨fn, tmps, assign, body, hy, hR⟩ := hY (sTo wd r ++ sCol r k) (r, k) wr hJk hlen
          dsimp only at hy
          gi_wp2
          refine hR.mono ?_
          rintro e W3 (⟨rfl, hJ3, hk3⟩ | ⟨rfl, hJx3⟩)
          · have hb3 : W3.heap[Bn]? = some (.cells #[.int .i64 (wd : Int), .int .i64 (ht : Int)] 115 (0, 0)) := hk3.trans hbk
            gi_wp2
            go_roundw
            case rel => exact ⟨k + 1, by omega, by go_num, by rw [sCol, ← List.append_assoc]; exact hJ3, hb3⟩
            case measure => simp [intOf]; omega
          · gi_wp2
            refine bodyPost_ret (results_none rfl _ _ _) rfl ?_
            exact ⟨⟨_, rfl⟩, .inr ⟨_, spot_pre hlt hltk, hJx3⟩⟩
        · obtain rfl : k = wd := by omega
          gi_wp2
          go_roundw
          case rel => exact ⟨r + 1, by omega, by go_num, by rw [sTo]; exact hJk, hbk⟩
          case measure => simp [intOf]; omega
    · obtain rfl : r = ht := by omega
      gi_wp2
      go_end0
      exact ⟨⟨_, rfl⟩, .inl ⟨_, rfl, hJr⟩⟩

/-- The spots of an area, given to a loop whose body always goes on. -/
theorem spots_gives (Bn wd ht : Nat) (hwd : wd ≤ 4096) (hht : ht ≤ 4096) (O : Nat → Prop) (w : World) (hBn : w.heap[Bn]? = some (.cells #[.int .i64 (wd : Int), .int .i64 (ht : Int)] 115 (0, 0))) (hOB : ¬ O Bn) :
    Gives Try.prog 115 #[.pointer (some ⟨Bn, 0, none⟩)] (fun x : Nat × Nat => #[.int .i64 (x.1 : Int), .int .i64 (x.2 : Int)]) (sTo wd ht) O w := by
  intro n l J W hW _ hl hOl hwl hJ hY h0
  have hlt : Bn < w.heap.size := (Array.getElem?_eq_some_iff.1 hBn).1
  have hBW : W.heap[Bn]? = some (.cells #[.int .i64 (wd : Int), .int .i64 (ht : Int)] 115 (0, 0)) := (hW.block Bn hlt hOB).trans hBn
  have hltW : Bn < W.heap.size := (Array.getElem?_eq_some_iff.1 hBW).1
  have hn1 : ∀ m, CallsIn Fence.wide m Try.prog 115 (#[.func (.yield l) #[] #[]] ++ #[.pointer (some ⟨Bn, 0, none⟩)]) W (fun e W' => (∃ v, e = .returned v) ∧ J (sTo wd ht) W' ∧ But (fun k => O k ∨ k = l) W W') → CallsIn Fence.wide n Try.prog 115 (#[.func (.yield l) #[] #[]] ++ #[.pointer (some ⟨Bn, 0, none⟩)]) W (fun e W' => (∃ v, e = .returned v) ∧ J (sTo wd ht) W' ∧ But (fun k => O k ∨ k = l) W W') := fun m h => callsIn_wide.2 (callsIn_wide.1 h)
  refine hn1 1 ?_
  refine (spots1_in Fence.wide 1 trivial rfl (Nat.le_refl _) l Bn wd ht hwd hht (fun pre W1 => J pre W1 ∧ But (fun k => O k ∨ k = l) W W1) (fun _ _ => False) ?_ W hBW ⟨h0, But.refl _ _⟩).mono ?_
  · rintro pre x W1 ⟨hj, hb⟩ hlen
    obtain ⟨fn, tmps, assign, body, hy, hR⟩ := hY pre x W1 (1 - 1) hj hb hlen
    refine ⟨fn, tmps, assign, body, hy, hR.mono ?_⟩
    rintro e W' ⟨rfl, hj', hb'⟩
    exact .inl ⟨rfl, ⟨hj', hb.trans hb'⟩, hb'.block Bn (Nat.lt_of_lt_of_le hltW hb.size) (fun e => by rcases e with e | e; exact hOB e; omega)⟩
  · rintro e W' ⟨hv, (⟨ys, rfl, hj, hb⟩ | ⟨pre, _, hf⟩)⟩
    · exact ⟨hv, hj, hb⟩
    · exact hf.elim

/-- What makes the function. -/
theorem spots_in (F : Fence) (n : Nat) (hf : F.fn 101) (hro : F.round = none) (a b : Int) (w : World) :
    CallsIn F n Try.prog 101 #[.agg #[.int .i64 a, .int .i64 b]] w fun e w' => e = .returned (.func (.func 115) #[] #[.pointer (some ⟨w.heap.size, 0, none⟩)]) ∧ w' = w.alloc (.cells #[.int .i64 a, .int .i64 b] 115) := by
  refine callsIn_of_wp Try.func101 rfl hf ?_ hro
  simp only [Try.ntmps101, List.size_toArray, List.length_cons, List.length_nil, Nat.reduceAdd, Nat.reduceSub, Array.replicate_succ, Array.replicate_zero, List.push_toArray, List.append_toArray, List.nil_append, List.cons_append]
  gi_wp2
  go_ret
  exact ⟨rfl, rfl⟩

end Go.Proofs.Ytibgldanmhckiaa

namespace Go.Proofs.Ytibgldanmhckiaa
open Go.RowKit Go.Shelf

section
variable {P : Program} {ops : Array Oper} {md : Region.Mode} {Q : Exit → Act → World → Prop}

def noDefer : List Oper → Bool
  | [] => true
  | o :: r => (match o.op with | .defer _ => false | _ => true) && noDefer r
theorem noDefer_at : ∀ {l : List Oper}, noDefer l = true → ∀ (i : Nat) (o : Oper), l[i]? = some o → ∀ c, o.op ≠ .defer c
  | [], _, i, o, h, _ => by simp at h
  | x :: r, hn, i, o, h, c => by
    simp only [noDefer, Bool.and_eq_true] at hn
    cases i with
    | zero =>
      have e : x = o := by simpa using h
      subst e
      intro e2
      simp [e2] at hn
    | succ i => exact noDefer_at hn.2 i o (by simpa using h) c

theorem rows_round {row : String} {args : Array Value} {w : World} {R : Value → World → Prop} (l n : Nat) (h : Rows P row args w R) : RowsIn (Fence.wide.inRound l) n P row args w R := fun c cs _ => by
  obtain ⟨v, w', r, s⟩ := h c cs
  refine ⟨v, w', r, ?_⟩
  rw [fenced_inRound]
  exact stepsIn_wide.2 s

theorem wpOp_round {l n i : Nat} {K : Act → World → Prop} {a : Act} {w : World} (hnd : ∀ (i : Nat) (o : Oper), ops[i]? = some o → ∀ c, o.op ≠ .defer c) (hQ : ∀ a w, ¬ Q .outgrown a w) (h : wpOp P ops Q i K a w) : wpOpIn (Fence.wide.inRound l) n P ops Q i K a w := by
  unfold wpOp at h
  unfold wpOpIn
  cases ho : ops[i]? with
  | none => simp only [ho] at h; exact h
  | some o =>
    simp only [ho] at h
    by_cases hw : Region.wanted o (yielded ops a.tmps) = true
    · simp only [hw, if_true] at h ⊢
      rcases h with h | ⟨_, a0, w0, hq⟩
      · unfold Oper.wp at h
        refine ⟨fun _ _ => trivial, ?_⟩
        rw [Oper.semAt_eq _ _ _ (hnd i o ho)]
        generalize (execOp a.eval o).run P w = r at h ⊢
        cases r with
        | ok x w' =>
          cases x with
          | enter f args => exact ⟨fun e => by simp [Fence.wide, Fence.inRound] at e, CallsIn.inRound l (callsIn_wide.2 h)⟩
          | row rw' args => exact ⟨fun e => by simp [Fence.wide, Fence.inRound] at e, rows_round l _ h⟩
          | _ => first | exact h | exact h.elim
        | halt x w' => cases x <;> first | exact h | exact h.elim
      · exact (hQ _ _ hq).elim
    · simp only [hw, if_false, Bool.false_eq_true] at h ⊢
      exact ⟨fun _ _ => trivial, h⟩

theorem wpAny_round {l n : Nat} (hnd : ∀ (i : Nat) (o : Oper), ops[i]? = some o → ∀ c, o.op ≠ .defer c) (hQ : ∀ a w, ¬ Q .outgrown a w) : ∀ (fuel : Nat) (listed : Array Bool) (a : Act) (w : World), wpAny P md ops Q fuel listed a w → wpAnyIn (Fence.wide.inRound l) n P md ops Q fuel listed a w
  | 0, _, _, _, h => h
  | fuel + 1, _, _, _, h => ⟨h.1, fun i hi => wpOpIn_mono (fun a' w' h' => wpAny_round hnd hQ fuel _ a' w' h') (wpOp_round hnd hQ (h.2 i hi))⟩
end

/-- A region that draws its order, inside of a round. -/
theorem wpIn_raw {P : Program} {id l0 n : Nat} {Q : Exit → Act → World → Prop} {a : Act} {w : World} {l : List Oper} (S : World → Prop) (ms : List Bool) (hm : P.follows .mixedOrders = true) (hQo : ∀ a w, ¬ Q .outgrown a w) (hQ : ∀ c a d v w, Q (.panic c) (Act.put a d v) w → Q (.panic c) a w)
    (hl : l.length = ms.length) (hnd : noDefer l = true) (hB : (Region.noSelect l.toArray && lexRaw .any l.toArray ms 0 (Array.replicate l.length false)) = true)
    (hS : S w.drew) (h : heldF P l.toArray S (fun a' => wpAnyH P .any l.toArray Q S (leftF ms) (listedOf ms 0 (Array.replicate l.length false)) a' w.drew) l ms a) : (Code.region id l.toArray true).wpIn (Fence.wide.inRound l0) n P Q a w := by
  rw [Bool.and_eq_true] at hB
  have := anyH_raw (P := P) (ops := l.toArray) (md := .any) (S := S) (Q := Q) (leftF ms) hB.1 hQ l ms 0 (Array.replicate l.length false) a w.drew hl (fun j hj => by simp) hB.2 hS h
  rw [count_all ms, ← hl] at this
  refine wpIn_region_any hm (wpAny_round (fun i o ho c => noDefer_at hnd i o (by simpa using ho) c) hQo _ _ _ _ ?_)
  have h2 := wpAny_of_held _ _ _ _ this
  rw [List.size_toArray]
  exact h2

/-- What an iterator gives a loop whose body may also return: all of S, or a beginning of it. -/
def Stops {α : Type} (P : Program) (g : Nat) (lb : Array Value) (encs : α → Array Value) (S : List α) (O : Nat → Prop) (w : World) : Prop :=
  ∀ (n l : Nat) (J : List α → World → Prop) (Jx : World → Prop) (W : World), But O w W → (∀ k, O k → k < W.heap.size) → l < W.heap.size → ¬ O l → w.heap.size ≤ l → LocalJ (fun k => O k ∨ k = l) J →
    (∀ pre x W1 m, J pre W1 → But (fun k => O k ∨ k = l) W W1 → pre ++ [x] <+: S → YieldAt Fence.wide m P l (encs x) W1 fun e W' => ((e = .returned (.bool true) ∧ J (pre ++ [x]) W') ∨ (e = .returned (.bool false) ∧ Jx W')) ∧ But (fun k => O k ∨ k = l) W1 W') → J [] W →
    CallsIn Fence.wide n P g (#[.func (.yield l) #[] #[]] ++ lb) W fun e W' => (∃ v, e = .returned v) ∧ (J S W' ∨ Jx W') ∧ But (fun k => O k ∨ k = l) W W'

/-- How the body of a round is left. -/
def onOrRet (R Rx : World → Prop) : Exit → Act → World → Prop
  | .normal, _, W' => R W'
  | .ret, _, W' => Rx W'
  | _, _, _ => False

theorem rangeFunc_stops {α : Type} {n : Nat} {P : Program} {g : Operand} {ps : Array Tmp} {assign body : Code} {Q : Exit → Act → World → Prop} {a : Act} {w : World}
    {gf : Nat} {lb : Array Value} (hg : a.eval g = .func (.func gf) #[] lb) (eg : ∀ args w, (callFunc gf args).run P w = .ok (.enter gf args) w)
    {encs : α → Array Value} {S : List α} {O : Nat → Prop} (hO : ∀ k, O k → k < w.heap.size) (hG : Stops P gf lb encs S O w) (hps : ∀ x, (encs x).size = ps.size)
    (I : List α → World → Prop) (hI : LocalJ O I) (Ix : World → Prop) (hIx : ∀ W W', Ix W → (∀ k, O k → W'.heap[k]? = W.heap[k]?) → Ix W') (h0 : I [] w) (a₁ : α → Act)
    (hassign : ∀ (l m : Nat) (x : α) (W : World) (K : Act → World → Prop), K (a₁ x) W →
      assign.wpIn (Fence.wide.inRound l) m P (Exit.then K (fun _ _ _ => False)) { tmps := (ps.zip (encs x)).foldl (fun t (p, v) => t.setIfInBounds p v) a.tmps, defers := [] } W)
    (hbody : ∀ (l m : Nat) (pre : List α) (x : α) (W : World), I pre W → But O w W → pre ++ [x] <+: S → body.wpIn (Fence.wide.inRound l) m P (onOrRet (fun W' => I (pre ++ [x]) W' ∧ But O W W') (fun W' => Ix W' ∧ But O W W')) (a₁ x) W)
    (hdone : ∀ (D : Nat) (W : World), w.heap.size ≤ D → I S W → But O w W → W.heap[D]? = some (.deferred (some [])) → Q .normal { a with defers := { target := .collected D, args := #[] } :: a.defers } W)
    (hstop : ∀ (D : Nat) (W : World), w.heap.size ≤ D → Ix W → But O w W → W.heap[D]? = some (.deferred (some [])) → Q .ret { a with defers := { target := .collected D, args := #[] } :: a.defers } W) :
    (Code.rangeFunc g ps assign body).wpIn Fence.wide n P Q a w := by
  refine wpIn_rangeFunc ?_
  intro fn hfn
  obtain ⟨R, hR⟩ : ∃ R : LoopState → Option Code → Loop, R = fun st pe => { state := st, pending := pe, fn, tmps := a.tmps, params := ps, assign, body, defers := w.heap.size } := ⟨_, rfl⟩
  obtain ⟨l, hl⟩ : ∃ l, w.heap.size + 1 = l := ⟨_, rfl⟩
  obtain ⟨W1, hW1⟩ : ∃ W1, (w.alloc (.deferred (some []))).alloc (.loop (R .ready none)) = W1 := ⟨_, rfl⟩
  have hs1 : W1.heap.size = w.heap.size + 2 := by rw [← hW1]; simp
  have hOl : ¬ O l := fun e => by have := hO l e; omega
  have hOD : ¬ O w.heap.size := fun e => by have := hO _ e; omega
  have hL1 : W1.heap[l]? = some (.loop (R .ready none)) := by
    rw [← hW1, ← hl]; have := World.alloc_heap_new (w.alloc (.deferred (some []))) (.loop (R .ready none)); rwa [World.size_alloc] at this
  have hD1 : W1.heap[w.heap.size]? = some (.deferred (some [])) := by
    rw [← hW1]; exact (Below.heap_alloc _ _ _ (by simp)).trans (World.alloc_heap_new w _)
  have b1 : ∀ O', But O' w W1 := fun O' => by
    rw [← hW1]; exact But.of_grown (grown_alloc (grown_alloc (World.grownBy.refl w none) _) _) (fun g e => by cases e)
  have hI1 : I [] W1 := hI _ _ _ h0 (fun k hk => (b1 (fun _ => False)).block k (hO k hk) (fun e => e))
  refine ⟨l, [{ target := .collected w.heap.size, args := #[] }], W1, { target := .fn (.func gf) lb, args := #[.func (.yield l) #[] #[]] }, W1, gf, #[.func (.yield l) #[] #[]] ++ lb, W1, ?_, ?_, fun _ _ => trivial, ?_, (fun h => by simp [Fence.wide] at h), ?_⟩
  · rw [← hW1, ← hl, hR]; exact run_enterLoop_outer _ _ _ _ _
  · simp only [resolve, hg]
    simp [go_sem]
  · simp [invoke, go_sem, eg]
  · have loc : LocalJ (fun k => O k ∨ k = l) (fun pre W => I pre W ∧ W.heap[l]? = some (.loop (R .ready none))) := fun pre W W' h hk => ⟨hI _ _ _ h.1 (fun k ok => hk k (.inl ok)), (hk l (.inr rfl)).trans h.2⟩
    refine (hG (n - 1) l _ (fun W => Ix W ∧ W.heap[l]? = some (.loop (R .done (some .ret)))) W1 (b1 O) (fun k hk => by have := hO k hk; omega) (by omega) hOl (by omega) loc ?_ ⟨hI1, hL1⟩).mono ?_
    · rintro pre x W m ⟨hi, hlW⟩ bW hlen
      have hlt : l < W.heap.size := (Array.getElem?_eq_some_iff.1 hlW).1
      have hy := run_yield (P := P) (args := encs x) hlW (by rw [hR]; exact hps x)
      rw [hR] at hy
      refine ⟨fn, _, assign, body, hy, roundIn_of_wpIn hfn (hassign l m x W _ ⟨_, run_beginRound hlW (by rw [hR]), ?_⟩)⟩
      clear hy
      obtain ⟨W2, hW2⟩ : ∃ W2, W.putObj l (.loop { R .ready none with state := .busy }) = W2 := ⟨_, rfl⟩
      rw [hW2]
      have hl2 : W2.heap[l]? = some (.loop { R .ready none with state := .busy }) := by rw [← hW2]; exact World.putObj_heap_same hlt
      have b2 : But (fun k => O k ∨ k = l) W W2 := by rw [← hW2]; exact But.putObj W l _ (.inr rfl)
      have hi2 : I pre W2 := hI _ _ _ hi (fun k hk => by rw [← hW2]; exact World.putObj_heap_other (fun e => hOl (by rw [← e]; exact hk)))
      have bw2 : But O w W2 := by
        have h := bW.trans b2
        exact ⟨h.os.trans (b1 O).os, h.tape.trans (b1 O).tape, h.output.trans (b1 O).output, Nat.le_trans (b1 O).size h.size, fun k hk ho => (h.block k (by omega) (fun e => by rcases e with e | e; exact ho e; omega)).trans ((b1 O).block k hk ho)⟩
      refine wpIn_mono (hbody l m pre x W2 hi2 bw2 hlen) ?_
      rintro e a3 W3 hp
      cases e with
      | normal =>
        obtain ⟨hi3, b3⟩ := hp
        have hl3 : W3.heap[l]? = some (.loop { R .ready none with state := .busy }) := (b3.block l (Array.getElem?_eq_some_iff.1 hl2).1 hOl).trans hl2
        have hlt3 : l < W3.heap.size := (Array.getElem?_eq_some_iff.1 hl3).1
        have he := run_endRound (P := P) none hl3
        have hi4 : I (pre ++ [x]) (W3.putObj l (.loop (R .ready none))) := hI _ _ _ hi3 (fun k hk => World.putObj_heap_other (fun e => hOl (by rw [← e]; exact hk)))
        have hl4 : (W3.putObj l (.loop (R .ready none))).heap[l]? = some (.loop (R .ready none)) := World.putObj_heap_same hlt3
        refine ⟨_, _, ?_, .inl ⟨rfl, hi4, hl4⟩, (b2.trans (b3.mono (fun k hk => .inl hk))).trans (But.putObj W3 l _ (.inr rfl))⟩
        rw [hR] at he ⊢
        exact he
      | ret =>
        obtain ⟨hi3, b3⟩ := hp
        have hl3 : W3.heap[l]? = some (.loop { R .ready none with state := .busy }) := (b3.block l (Array.getElem?_eq_some_iff.1 hl2).1 hOl).trans hl2
        have hlt3 : l < W3.heap.size := (Array.getElem?_eq_some_iff.1 hl3).1
        have he := run_endRound (P := P) (some .ret) hl3
        have hi4 : Ix (W3.putObj l (.loop (R .done (some .ret)))) := hIx _ _ hi3 (fun k hk => World.putObj_heap_other (fun e => hOl (by rw [← e]; exact hk)))
        have hl4 : (W3.putObj l (.loop (R .done (some .ret)))).heap[l]? = some (.loop (R .done (some .ret))) := World.putObj_heap_same hlt3
        refine ⟨_, _, ?_, .inr ⟨rfl, hi4, hl4⟩, (b2.trans (b3.mono (fun k hk => .inl hk))).trans (But.putObj W3 l _ (.inr rfl))⟩
        rw [hR] at he ⊢
        exact he
      | exit id => exact hp.elim
      | goto t => exact hp.elim
      | panic ch => exact hp.elim
      | outgrown => exact hp.elim
    · rintro e W5 ⟨⟨v, rfl⟩, hor, b5⟩
      have hD5 : W5.heap[w.heap.size]? = some (.deferred (some [])) := (b5.block w.heap.size (by omega) (fun e => by rcases e with e | e; exact hOD e; omega)).trans hD1
      have b6 : ∀ o, But (fun k => O k ∨ k = l) W1 (W5.putObj l o) := fun o => b5.trans (But.putObj W5 l o (.inr rfl))
      have b7 : ∀ o, But O w (W5.putObj l o) := fun o => ⟨(b6 o).os.trans (b1 O).os, (b6 o).tape.trans (b1 O).tape, (b6 o).output.trans (b1 O).output, Nat.le_trans (b1 O).size (b6 o).size, fun k hk ho => ((b6 o).block k (by omega) (fun e => by rcases e with e | e; exact ho e; omega)).trans ((b1 O).block k hk ho)⟩
      rcases hor with ⟨hi5, hl5⟩ | ⟨hi5, hl5⟩
      · have he := run_endLoop (P := P) hl5 (by rw [hR]; simp)
        exact ⟨none, _, by rw [hR] at he; exact he, hdone w.heap.size _ (Nat.le_refl _) (hI _ _ _ hi5 (fun k hk => World.putObj_heap_other (fun e => hOl (by rw [← e]; exact hk)))) (b7 _) ((World.putObj_heap_other (by omega)).trans hD5)⟩
      · have he := run_endLoop (P := P) hl5 (by rw [hR]; simp)
        refine ⟨some .ret, _, by rw [hR] at he; exact he, ?_⟩
        refine wpIn_ret ?_
        exact hstop w.heap.size _ (Nat.le_refl _) (hIx _ _ hi5 (fun k hk => World.putObj_heap_other (fun e => hOl (by rw [← e]; exact hk)))) (b7 _) ((World.putObj_heap_other (by omega)).trans hD5)

end Go.Proofs.Ytibgldanmhckiaa

namespace Go.Proofs.Ytibgldanmhckiaa
open Go.RowKit

end Go.Proofs.Ytibgldanmhckiaa

namespace Go.Proofs.Ytibgldanmhckiaa
open Go.RowKit

theorem load_row {P : Program} {ops : Array Oper} {rest : List Oper} {op : Oper} {a : Act} {w : World} {Q : Exit → Act → World → Prop} (hw : Region.wanted op (yielded ops a.tmps) = true) (ty : TypeId) (x : Operand) (ho : op.op = .load ty x)
    (b : Nat) (hx : a.eval x = .pointer (some ⟨b, 0, none⟩)) (X : Array Value) (t : TypeId) (hb : w.heap[b]? = some (.cells X t (0, 0))) (d : TypeDesc)
    (hu : P.underlying ty = some d) (hd : d.isRow = true) (hi : (P.info? ty).map (·.size) = some X.size)
    (h : wpList P ops Q rest (a.put op.dst (.agg X)) w) : wpList P ops Q (op :: rest) a w :=
  BigFrame.wpList_want hw fun _ hK => wp_load_mid ty x ho b 0 hx X.toList d (fun j v hv => by rw [cell_of_row w b (0 + j) X t (0, 0) hb]; simpa using hv) hu hd (by simpa using hi) (hK _ _ (by simpa using h))
theorem exec_row {P : Program} {ev : Operand → Value} {op : Oper} {w : World} (ty : TypeId) (x : Operand) (ho : op.op = .load ty x) (b : Nat) (hx : ev x = .pointer (some ⟨b, 0, none⟩)) (X : Array Value) (t : TypeId) (hb : w.heap[b]? = some (.cells X t (0, 0))) (d : TypeDesc)
    (hu : P.underlying ty = some d) (hd : (match d with | .struct _ | .array _ _ => true | _ => false) = true) (hi : (P.info? ty).map (·.size) = some X.size) : (execOp ev op).run P w = .ok (.value (.agg X)) w := by
  unfold execOp
  simp only [ho, hx, Instr.loadAt, Instr.sureAddr, Sem.run_bind, Sem.run_pure, Result.andThen_ok, run_loadVar_row w b t ty X (0, 0) d hb hu hd hi]
theorem results_c1 {fn : Func} {p : Tmp} {ty : TypeId} (h : fn.results = #[.cell p ty]) (tmps : Array Value) (P : Program) (w : World) :
    (results fn tmps).run P w = ((asAddr (tmps.getD p undef)).run P w).andThen fun a w₁ => (loadVar ty a).run P w₁ := by
  simp only [results, h]
  simp [Sem.run_bind, Result.andThen]
theorem results_c2 {fn : Func} {p q : Tmp} {ty : TypeId} (h : fn.results = #[.cell p ty, .tmp q]) (tmps : Array Value) (P : Program) (w : World) (g : Nat) (hp : tmps.getD p undef = .pointer (some ⟨g, 0, none⟩)) (x : Value) (hl : (loadVar ty ⟨g, 0, none⟩).run P w = .ok x w) :
    (results fn tmps).run P w = .ok (.tuple #[x, tmps.getD q undef]) w := by
  simp only [results, h]
  have ha : (asAddr (.pointer (some ⟨g, 0, none⟩))).run P w = .ok ⟨g, 0, none⟩ w := by simp [asAddr]
  have hp' : tmps[p]?.getD undef = .pointer (some ⟨g, 0, none⟩) := by simpa using hp
  simp [Sem.run_bind, Result.andThen, hp', hl, ha]
theorem load_mid {P : Program} {ops : Array Oper} {rest : List Oper} {op : Oper} {a : Act} {w : World} {Q : Exit → Act → World → Prop} (hw : Region.wanted op (yielded ops a.tmps) = true) (ty : TypeId) (x : Operand) (ho : op.op = .load ty x)
    (b off : Nat) (hx : a.eval x = .pointer (some ⟨b, off, none⟩)) (X : Array Value) (hb : ∀ j v, X[j]? = some v → w.cell? ⟨b, off + j, none⟩ = some v) (d : TypeDesc)
    (hu : P.underlying ty = some d) (hd : d.isRow = true) (hi : (P.info? ty).map (·.size) = some X.size)
    (h : wpList P ops Q rest (a.put op.dst (.agg X)) w) : wpList P ops Q (op :: rest) a w :=
  BigFrame.wpList_want hw fun _ hK => wp_load_mid ty x ho b off hx X.toList d (fun j v hv => hb j v (by simpa using hv)) hu hd (by simpa using hi) (hK _ _ (by simpa using h))
theorem grown_row (w : World) (g : Nat) (X : Array Value) : w.grownBy (w.setRow g X) (some g) :=
  ⟨rfl, rfl, rfl, by simp [World.setRow], fun k _ hk => setRow_other w g k X (fun e => hk (by simp [e]))⟩
theorem step_store_row {P : Program} {op : Oper} {a : Act} {w : World} {K : Act → World → Prop} {Q : Exit → Act → World → Prop} {t0 : Bool} {Z : Prop} (hw : t0 = true) (ty : TypeId) (x y : Operand) (ho : op.op = .store ty x y)
    (b : Nat) (hx : a.eval x = .pointer (some ⟨b, 0, none⟩)) (X : Array Value) (hy : a.eval y = .agg X) (Y : Array Value) (t : TypeId) (hb : w.heap[b]? = some (.cells Y t (0, 0))) (hYX : Y.size = X.size)
    (hi : (P.info? ty).map (·.size) = some X.size) (h1 : X.all (·.oneCell') = true)
    (h : ∀ w', w'.heap[b]? = some (.cells X t (0, 0)) → w.grownBy w' (some b) → K (a.put op.dst undef) w') : if t0 = true then Oper.wp P op a w K Q else Z := by
  rw [if_pos hw]
  unfold Oper.wp execOp
  simp only [ho, hx, hy, Instr.storeAt, Instr.sureAddr, Sem.run_bind, Sem.run_pure, Result.andThen_ok, run_storeVar_row w b t ty Y X hb hi hYX h1]
  exact h _ (setRow_heap w b Y X t _ hb) (grown_row w b X)
theorem store_row {P : Program} {ops : Array Oper} {rest : List Oper} {op : Oper} {a : Act} {w : World} {Q : Exit → Act → World → Prop} (hw : Region.wanted op (yielded ops a.tmps) = true) (ty : TypeId) (x y : Operand) (ho : op.op = .store ty x y)
    (b : Nat) (hx : a.eval x = .pointer (some ⟨b, 0, none⟩)) (X : Array Value) (hy : a.eval y = .agg X) (Y : Array Value) (t : TypeId) (hb : w.heap[b]? = some (.cells Y t (0, 0))) (hYX : Y.size = X.size)
    (hi : (P.info? ty).map (·.size) = some X.size) (h1 : X.all (·.oneCell') = true)
    (h : ∀ w', w'.heap[b]? = some (.cells X t (0, 0)) → w.grownBy w' (some b) → wpList P ops Q rest (a.put op.dst undef) w') : wpList P ops Q (op :: rest) a w :=
  BigFrame.wpList_want hw fun K hK => by
    unfold Oper.wp execOp
    simp only [ho, hx, hy, Instr.storeAt, Instr.sureAddr, Sem.run_bind, Sem.run_pure, Result.andThen_ok, run_storeVar_row w b t ty Y X hb hi hYX h1]
    exact hK _ _ (h _ (setRow_heap w b Y X t _ hb) (grown_row w b X))

/-- The cells of numbers. -/
def sq (zs : List Int) : Array Value := (zs.map (Value.int .i64)).toArray
theorem sq_size (zs : List Int) : (sq zs).size = zs.length := by simp [sq]
theorem sq_one (zs : List Int) : (sq zs).all (·.oneCell') = true := by simp [sq, Value.oneCell']
theorem sq_at (zs : List Int) (i : Nat) (h : i < zs.length) : (sq zs)[i]? = some (.int .i64 (zs.getD i 0)) := by simp [sq, h]
/-- Sixty-four noughts. -/
def zs64 : List Int := List.replicate 64 0
theorem zs64_len : zs64.length = 64 := by simp [zs64]
theorem sq_z64 : sq zs64 = #[.int .i64 0, .int .i64 0, .int .i64 0, .int .i64 0, .int .i64 0, .int .i64 0, .int .i64 0, .int .i64 0, .int .i64 0, .int .i64 0, .int .i64 0, .int .i64 0, .int .i64 0, .int .i64 0, .int .i64 0, .int .i64 0, .int .i64 0, .int .i64 0, .int .i64 0, .int .i64 0, .int .i64 0, .int .i64 0, .int .i64 0, .int .i64 0, .int .i64 0, .int .i64 0, .int .i64 0, .int .i64 0, .int .i64 0, .int .i64 0, .int .i64 0, .int .i64 0, .int .i64 0, .int .i64 0, .int .i64 0, .int .i64 0, .int .i64 0, .int .i64 0, .int .i64 0, .int .i64 0, .int .i64 0, .int .i64 0, .int .i64 0, .int .i64 0, .int .i64 0, .int .i64 0, .int .i64 0, .int .i64 0, .int .i64 0, .int .i64 0, .int .i64 0, .int .i64 0, .int .i64 0, .int .i64 0, .int .i64 0, .int .i64 0, .int .i64 0, .int .i64 0, .int .i64 0, .int .i64 0, .int .i64 0, .int .i64 0, .int .i64 0, .int .i64 0] := by rfl
/-- A list whose first k numbers are f's. -/
def mix (f : Nat → Int) (zs : List Int) (k : Nat) : List Int := (List.range k).map f ++ zs.drop k
/-- Sixty-four numbers of f. -/
def made (f : Nat → Int) : List Int := (List.range 64).map f
theorem made_len (f : Nat → Int) : (made f).length = 64 := by simp [made]
theorem made_at (f : Nat → Int) (i : Nat) (h : i < 64) : (made f).getD i 0 = f i := by simp [made, h]
theorem made_take (f : Nat → Int) (k : Nat) (h : k < 64) (z : Int) (hz : z = f k) : (made f).take k ++ [z] = (made f).take (k + 1) := by
  subst hz
  rw [List.take_add_one]
  have : (made f)[k]? = some (f k) := by simp [made, h]
  rw [this]
  rfl
theorem made_take_all (f : Nat → Int) : (made f).take 64 = made f := List.take_of_length_le (by rw [made_len]; exact Nat.le_refl _)
theorem mix_zero (f : Nat → Int) (zs : List Int) : mix f zs 0 = zs := by simp [mix]
theorem mix_all (f : Nat → Int) (zs : List Int) (h : zs.length = 64) : mix f zs 64 = made f := by simp [mix, made, List.drop_eq_nil_of_le (Nat.le_of_eq h)]
theorem mix_len (f : Nat → Int) (zs : List Int) (k : Nat) (h : k ≤ zs.length) : (mix f zs k).length = zs.length := by simp [mix]; omega
theorem mix_set (f : Nat → Int) (zs : List Int) (k : Nat) (h : k < zs.length) : (sq (mix f zs k)).setIfInBounds k (.int .i64 (f k)) = sq (mix f zs (k + 1)) := by
  unfold sq mix
  apply Array.ext'
  simp only [List.setIfInBounds_toArray, List.map_append, List.range_succ, List.map_cons, List.map_nil, List.append_assoc]
  rw [List.set_append_right _ _ (by simp), List.drop_eq_getElem_cons h]
  simp only [List.map_cons, List.length_map, List.length_range, Nat.sub_self, List.set_cons_zero, List.cons_append, List.nil_append]
theorem made_congr {f g : Nat → Int} (h : ∀ p, p < 64 → f p = g p) : made f = made g := by
  unfold made
  apply List.map_congr_left
  intro p hp
  exact h p (by simpa using hp)
theorem made_set (f : Nat → Int) (j : Nat) (v : Int) (hj : j < 64) : (sq (made f)).setIfInBounds j (.int .i64 v) = sq (made (fun p => if p = j then v else f p)) := by
  apply Array.ext_getElem?
  intro i
  by_cases hi : i < 64
  · rw [Array.getElem?_setIfInBounds, sq_at _ i (by rw [made_len]; exact hi), sq_at _ i (by rw [made_len]; exact hi), sq_size, made_len, made_at _ i hi, made_at _ i hi]
    by_cases e : j = i
    · subst e; simp [hj]
    · simp [e, Ne.symm e]
  · rw [Array.getElem?_eq_none (by simp [sq_size, made_len]; omega), Array.getElem?_eq_none (by simp [sq_size, made_len]; omega)]
theorem sq_rd {w : World} {b off n : Nat} {zs : List Int} (h : Rd .i64 w (some ⟨b, off, none⟩) n zs) : ∀ j v, (sq zs)[j]? = some v → w.cell? ⟨b, off + j, none⟩ = some v := by
  intro j v hj
  have hjl : j < n := by
    have := (Array.getElem?_eq_some_iff.1 hj).1
    rw [sq_size, h.1] at this; exact this
  obtain ⟨b', off', e, hc⟩ := h.2 j hjl
  simp only [Option.some.injEq, Addr.mk.injEq, and_true] at e
  obtain ⟨rfl, rfl⟩ := e
  rw [hc, ← sq_at zs j (by rw [h.1]; exact hjl), hj]
theorem sq_cell {w : World} {g : Nat} {zs : List Int} {t : TypeId} (hb : w.heap[g]? = some (.cells (sq zs) t (0, 0))) (i : Nat) (h : i < zs.length) : w.cell? ⟨g, i, none⟩ = some (.int .i64 (zs.getD i 0)) := by
  rw [cell_of_row w _ i _ _ (0, 0) hb]; exact sq_at zs i h
theorem sq_frozen {w : World} {g : Nat} {zs : List Int} {t : TypeId} (hb : w.heap[g]? = some (.cells (sq zs) t (0, 0))) (i : Nat) : w.frozen? ⟨g, i, none⟩ = false := frozen_of_row w g i _ _ hb
/-- A number of an array that is held as a value. -/
theorem idx {zs : List Int} (hz : zs.length = 64) (k : Int) (h0 : 0 ≤ k) (h1 : k < 64) (w : World) : (Instr.index 80 (.agg (sq zs)) (.int .i64 k)).run Try.prog w = .ok (.int .i64 (zs.getD k.toNat 0)) w := by
  have h := sq_at zs k.toNat (by omega)
  simp [Instr.index, asIntOf, Sem.run_bind, run_underlying Try.underlying80, run_underlying Try.underlying3, Result.andThen_ok, h0, h1, Go.part, isAgg, h]

/-- One number more behind a row of one's own. -/
theorem append_int {w : World} {ops : Array Oper} {rest : List Oper} {o : Oper} {a : Act} {Q : Exit → Act → World → Prop} (hgd : o.guard = none) (s x : Operand)
    (ho : o.op = .call { callee := .builtin .append, args := #[s, x], argTypes := #[32, 32] })
    (B : World) (v : Value) (n : Nat) (xs : List Int) (hs : a.eval s = v) (hown : w.ownsRow B.heap.size 3 1 v n (xs.map (Value.int .i64))) (z : Int) (hx : a.eval x = .slice (some ⟨w.heap.size, 0, none⟩) 1 1)
    (hb : n + 1 ≤ 1000000) (hB : B.grownBy w none)
    (h : ∀ v' w', w'.ownsRow B.heap.size 3 1 v' (n + 1) ((xs ++ [z]).map (Value.int .i64)) → B.grownBy w' none → wpList Try.prog ops Q rest (a.put o.dst v') w') :
    wpList Try.prog ops Q (o :: rest) a (w.alloc (.cells #[.int .i64 z] 3)) := by
  obtain ⟨i0, hi, hz0, hz1, hz2⟩ := info_parts Try.info3
  refine wpList_append_own _ hgd s x 32 ho B.heap.size 3 i0 (.int .i64 0) 1 8 Try.underlying32 hi hz0 hz1 hz2 rfl (by decide) v n _ hs (hown.alloc _) ⟨w.heap.size, 0, none⟩ 1 1 [.int .i64 z] hx rfl (cell_one_new _ _ _) (by intro u hu; simp at hu; subst hu; rfl) (by unfold maxLen; omega) (by omega) (by have := hB.size; simp; omega) ?_
  intro v' w' h1 h2 _
  refine h v' w' (by rw [List.map_append]; exact h1) (grown_new (grown_alloc hB _) h2 (fun g e => (hown.lt g e).1))

/-- A row of one's own that grows from the block g0 on, all other blocks of S staying as they are. -/
structure OutI (B S : World) (g0 : Nat) (wr : World) (v : Value) (n : Nat) (xs : List Int) : Prop where
  own : wr.ownsRow B.heap.size 3 1 v n (xs.map (Value.int .i64))
  base : B.grownBy wr none
  kept : S.grownBy wr (some g0)
  lies : ∀ g, v.ownBlock = some g → g = g0 ∨ S.heap.size ≤ g
theorem append_out {w : World} {ops : Array Oper} {rest : List Oper} {o : Oper} {a : Act} {Q : Exit → Act → World → Prop} (hgd : o.guard = none) (s x : Operand)
    (ho : o.op = .call { callee := .builtin .append, args := #[s, x], argTypes := #[32, 32] })
    (B S : World) (g0 : Nat) (v : Value) (n : Nat) (xs : List Int) (hs : a.eval s = v) (hown : OutI B S g0 w v n xs) (z : Int) (hx : a.eval x = .slice (some ⟨w.heap.size, 0, none⟩) 1 1)
    (hb : n + 1 ≤ 1000000)
    (h : ∀ v' w', OutI B S g0 w' v' (n + 1) (xs ++ [z]) → wpList Try.prog ops Q rest (a.put o.dst v') w') :
    wpList Try.prog ops Q (o :: rest) a (w.alloc (.cells #[.int .i64 z] 3)) := by
  obtain ⟨i0, hi, hz0, hz1, hz2⟩ := info_parts Try.info3
  refine wpList_append_own_at _ hgd s x 32 ho B.heap.size 3 i0 (.int .i64 0) 1 8 Try.underlying32 hi hz0 hz1 hz2 rfl (by decide) v n _ hs (hown.own.alloc _) ⟨w.heap.size, 0, none⟩ 1 1 [.int .i64 z] hx rfl (cell_one_new _ _ _) (by intro u hu; simp at hu; subst hu; rfl) (by unfold maxLen; omega) (by omega) (by have := hown.base.size; simp; omega) ?_
  intro v' w' h1 h2 _ h4
  have hsz := hown.kept.size
  refine h v' w' ⟨by rw [List.map_append]; exact h1, grown_new (grown_alloc hown.base _) h2 (fun g e => (hown.own.lt g e).1), ?_, ?_⟩
  · have hA : S.grownBy (w.alloc (.cells #[.int .i64 z] 3)) (some g0) := grown_trans hown.kept (World.grownBy_alloc _ _ _)
    refine ⟨h2.os.trans hA.os, h2.tape.trans hA.tape, h2.output.trans hA.output, Nat.le_trans hA.size h2.size, fun k hk hne => (h2.block k (Nat.lt_of_lt_of_le hk hA.size) ?_).trans (hA.block k hk hne)⟩
    intro e
    rcases hown.lies k e.symm with e2 | e2
    · exact hne (by rw [e2])
    · omega
  · intro g e
    rcases h4 with h4 | h4
    · exact hown.lies g (by rw [← h4]; exact e)
    · rw [h4] at e
      simp at e
      right; omega

/-- Squares compared. -/
theorem eqSq {zs ys : List Int} (hz : zs.length = 64) (hy : ys.length = 64) (w : World) : (Op.equalIn 10000 80 (.agg (sq zs)) (.agg (sq ys))).run Try.prog w = .ok (zs == ys) w := by
  obtain ⟨i0, hi, _⟩ := info_parts Try.info3
  rw [run_equalIn_array w 9999 (sq zs) (sq ys) Try.underlying80 hi]
  have hc : Try.prog.cellsOf 3 = 1 := by kernel_rfl
  rw [hc]
  have key : ∀ (l : List Nat), (∀ i ∈ l, i < 64) → (Op.eqItems 9999 3 1 (sq zs) (sq ys) l).run Try.prog w = .ok (l.all fun i => zs.getD i 0 == ys.getD i 0) w := by
    intro l hl
    induction l with
    | nil => simp [Op.eqItems]
    | cons i l ih =>
      have hi : i < 64 := hl i (by simp)
      have h1 := sq_at zs i (by omega)
      have h2 := sq_at ys i (by omega)
      have px : (Go.part 3 (sq zs) (i * 1)).run Try.prog w = .ok (.int .i64 (zs.getD i 0)) w := by
        rw [Nat.mul_one]; simp [Go.part, isAgg, run_underlying Try.underlying3, h1]
      have py : (Go.part 3 (sq ys) (i * 1)).run Try.prog w = .ok (.int .i64 (ys.getD i 0)) w := by
        rw [Nat.mul_one]; simp [Go.part, isAgg, run_underlying Try.underlying3, h2]
      simp only [Op.eqItems, Sem.run_bind, px, py, Result.andThen_ok, run_equalIn_int w 9998 3 .i64 .i64 _ _ Try.underlying3, List.all_cons]
      cases hb : (zs.getD i 0 == ys.getD i 0)
      · simp
      · simp only [Bool.not_true, Bool.false_eq_true, if_false, Bool.true_and]
        exact ih fun j hj => hl j (by simp [hj])
  rw [key _ (fun i hi => by simpa using hi)]
  refine congrArg (fun b => Result.ok b w) ?_
  generalize hN : (64 : Nat) = N at *
  rw [Bool.eq_iff_iff]
  simp only [List.all_eq_true, List.mem_range, beq_iff_eq]
  constructor
  · intro h
    apply List.ext_getElem?
    intro i
    by_cases hi : i < N
    · have := h i hi
      rw [List.getElem?_eq_getElem (by omega), List.getElem?_eq_getElem (by omega)]
      simpa [List.getD_eq_getElem?_getD, show i < zs.length by omega, show i < ys.length by omega] using this
    · rw [List.getElem?_eq_none (by omega), List.getElem?_eq_none (by omega)]
  · rintro rfl i _; rfl

end Go.Proofs.Ytibgldanmhckiaa
