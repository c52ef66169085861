/-
  The walks of what draws a frame to be written, and bytes to be read as one.
-/
import Derived.Test.YtdopiekdoaimkaaFrameAny
import Derived.Test.YtdopiekdoaimkaaFrameBackPure
namespace Go.Proofs.Ytdopiekdoaimkaa
open Go.RowKit

theorem writeF_short (p wd ht rs : Int) (n : Nat) (C : Nat → Nat → Int) : (writeF p wd ht rs n C).length ≤ 17 := by
  unfold writeF
  split
  · rename_i h
    have := (frameB_facts h).2.1
    rw [frameBs_len]; omega
  · simp
theorem writeF_bytes (p wd ht rs : Int) (n : Nat) (C : Nat → Nat → Int) : ∀ x ∈ writeF p wd ht rs n C, 0 ≤ x ∧ x ≤ 255 := by
  unfold writeF
  split
  · rename_i h
    exact frameBs_bytes h
  · simp
theorem own_wide {w : World} {base : Nat} {e : TypeId} {bo : Option Addr} {m c : Nat} {xs : List Value} (h : w.ownsRow base e 1 (.slice bo m c) m xs) : m ≤ c := by
  rcases h.2 with ⟨hv, h2⟩ | ⟨g, c', cur, hv, _, _, hle, _⟩
  · omega
  · simp at hv; omega

set_option maxHeartbeats 1600000 in
theorem drawWriteFrame (ao : Option Addr) (n cap : Nat) (zs : List Int) (w : World) (hr : Rd .u8 w ao n zs) (hb : ∀ i, 0 ≤ zs.getD i 0 ∧ zs.getD i 0 ≤ 255) (hn : n ≤ 1048576) :
    Calls Try.prog 20 #[.slice ao n cap] w fun e w' => ∃ (p0 wd0 ht0 rs0 : Int) (C : Nat → Nat → Int) (m bc : Nat) (bo : Option Addr), e = .returned (.agg #[.int .i64 p0, .int .i64 wd0, .int .i64 ht0, .int .i64 rs0, .slice bo m bc]) ∧ m ≤ 5 ∧ RdC w' bo m C ∧ w.grownBy w' none := by
  have hlt := hr.lt
  have HB := hide hb
  have HL := hide hlt
  have G0 : Hid (w.grownBy (w.alloc (.cells #[.int .i64 0, .int .i64 0, .int .i64 0, .int .i64 0, .slice none 0 0] 40)) none) := grown_alloc (World.grownBy.refl _ _) _
  have HB0 := hide (heap_alloc_new w (.cells #[.int .i64 0, .int .i64 0, .int .i64 0, .int .i64 0, .slice none 0 0] 40))
  have hgs : w.heap.size < (w.alloc (.cells #[.int .i64 0, .int .i64 0, .int .i64 0, .int .i64 0, .slice none 0 0] 40)).heap.size := by simp
  have HR := hide (hr.grown (unhide G0))
  clear hr hb hlt
  go_enter Try.func20, Try.ntmps20
  go_wp2_with fail
  generalize (w.alloc (.cells #[.int .i64 0, .int .i64 0, .int .i64 0, .int .i64 0, .slice none 0 0] 40)) = wx at *
  refine (open_of ao n cap zs wx (unhide HR) (unhide HB) hn).mono ?_
  rintro e w1 ⟨rfl, c1, g1⟩
  have hs1 := g1.size
  have HC1 : Hid (0 < n → ∀ b off, ao = some ⟨b, off, none⟩ → b < w1.heap.size) := fun h b off e => by have := unhide HL h b off e; omega
  have C1 := hide c1
  clear c1
  go_wp2_with fail
  refine (drawAny wx.heap.size ao n cap 0 zs w1 (unhide C1) (by omega) (unhide HC1) 4 (by omega) (by omega)).mono ?_
  rintro e w2 ⟨p0, wd0, ht0, rs0, C, m, bc, q, bo, rfl, hm1, hm5, o2, c2, hq, g2⟩
  have G2 : w.grownBy w2 none := grown_new (grown_trans (unhide G0) g1) g2 (fun g e => by simp at e; omega)
  have hB2 := (g2.block w.heap.size (by omega) (by simp; omega)).trans ((g1.block w.heap.size hgs (by simp)).trans (unhide HB0))
  have kr := frameCells5 hB2
  have fr := frameFree hB2
  have FIN : Hid (∀ a b c d e : Value, RdC (((((w2.setCell ⟨w.heap.size, 0, none⟩ a).setCell ⟨w.heap.size, 1, none⟩ b).setCell ⟨w.heap.size, 2, none⟩ c).setCell ⟨w.heap.size, 3, none⟩ d).setCell ⟨w.heap.size, 4, none⟩ e) bo m C ∧ w.grownBy (((((w2.setCell ⟨w.heap.size, 0, none⟩ a).setCell ⟨w.heap.size, 1, none⟩ b).setCell ⟨w.heap.size, 2, none⟩ c).setCell ⟨w.heap.size, 3, none⟩ d).setCell ⟨w.heap.size, 4, none⟩ e) none) := fun a b c d e => by
    have hs := grown_trans (grown_trans (grown_trans (grown_trans (grown_set w2 w.heap.size 0 a) (grown_set _ w.heap.size 1 b)) (grown_set _ w.heap.size 2 c)) (grown_set _ w.heap.size 3 d)) (grown_set _ w.heap.size 4 e)
    exact ⟨own_rdC (own_beneath o2 hs (fun g' t' e e' => by have := (o2.lt g' e).1; simp at e'; omega)), grown_new G2 hs (fun g' e => by simp at e; omega)⟩
  clear o2 c2 g2 G2 hB2 C1
  go_wp2
  refine bodyPost_ret (v := .agg #[.int .i64 p0, .int .i64 wd0, .int .i64 ht0, .int .i64 rs0, .slice bo m bc]) (by simp [results, Try.results20, go_sem, *]) rfl ?_
  exact ⟨p0, wd0, ht0, rs0, C, m, bc, bo, rfl, by omega, (unhide FIN _ _ _ _ _).1, (unhide FIN _ _ _ _ _).2⟩

set_option maxHeartbeats 1600000 in
theorem drawReadFrame (ao : Option Addr) (n cap : Nat) (zs : List Int) (w : World) (hr : Rd .u8 w ao n zs) (hb : ∀ i, 0 ≤ zs.getD i 0 ∧ zs.getD i 0 ≤ 255) (hn : n ≤ 1048576) :
    Calls Try.prog 26 #[.slice ao n cap] w fun e w' => ∃ (ys : List Int) (bc : Nat) (bo : Option Addr), e = .returned (.slice bo ys.length bc) ∧ ys.length ≤ 100 ∧ (∀ x ∈ ys, 0 ≤ x ∧ x ≤ 255) ∧ Rd .u8 w' bo ys.length ys ∧ ys.length ≤ bc ∧ w.grownBy w' none := by
  have hlt := hr.lt
  have HB := hide hb
  have HL := hide hlt
  have HR := hide hr
  clear hr hb hlt
  go_enter Try.func26, Try.ntmps26
  go_wp2_with fail
  refine (open_of ao n cap zs w (unhide HR) (unhide HB) hn).mono ?_
  rintro e w1 ⟨rfl, c1, g1⟩
  have hs1 := g1.size
  have htb := c1.lt
  have HC1 : Hid (0 < n → ∀ b off, ao = some ⟨b, off, none⟩ → b < w1.heap.size) := fun h b off e => by have := unhide HL h b off e; omega
  have C1 := hide c1
  clear c1
  go_wp2_with fail
  refine (drawAny w.heap.size ao n cap 0 zs w1 (unhide C1) (by omega) (unhide HC1) 12 (by omega) (by omega)).mono ?_
  rintro e w2 ⟨p0, wd0, ht0, rs0, C, m, bc, q, bo, rfl, hm1, hm5, o2, c2, hq, g2⟩
  have G2 : w.grownBy w2 none := grown_new g1 g2 (fun g e => by simp at e; omega)
  have R2 := hide (own_rdC o2)
  have C2 := hide c2
  have hs2 := g2.size
  clear o2 c2 g2 C1
  obtain ⟨Z, HZ⟩ : ∃ Z, Hid (writeF p0 wd0 ht0 rs0 m C = Z) := ⟨_, rfl⟩
  have hZl : Z.length ≤ 17 := by rw [← unhide HZ]; exact writeF_short _ _ _ _ _ _
  have HZB : Hid (∀ x ∈ Z, 0 ≤ x ∧ x ≤ 255) := by unfold Hid; rw [← unhide HZ]; exact writeF_bytes _ _ _ _ _ _
  go_wp2_with fail
  refine (specWriteFrame p0 wd0 ht0 rs0 bo m bc C w2 (unhide R2) Z HZ).mono ?_
  rintro e w3 ⟨b3, c3, rfl, o3, g3⟩
  have G3 := grown_trans G2 g3
  have C3 := hide ((unhide C2).grown g3)
  have hs3 := g3.size
  clear C2 R2 g3 G2
  go_wp2_with fail
  refine (once_of w.heap.size ao n cap q 2 zs w3 (unhide C3) (by omega) (by omega) (by omega)).mono ?_
  rintro e w4 ⟨t, q4, rfl, c4, hq4, g4⟩
  have o4 := own_beneath o3 g4 (fun g g' h h' => by have := (o3.lt g h).1; simp at h'; omega)
  have G4 : w.grownBy w4 none := grown_new G3 g4 (fun g e => by simp at e; omega)
  have hs4 := g4.size
  clear o3 C3 G3 g4
  cases t
  · have R4 := hide (own_rd o4)
    have hle := own_wide o4
    clear o4 c4
    go_wp2
    go_ret
    exact ⟨Z, c3, b3, rfl, by omega, unhide HZB, unhide R4, hle, G4⟩
  · have O4 := hide o4
    have C4 := hide c4
    clear o4 c4
    go_wp2_with fail
    refine (spoil w.heap.size ao n cap q4 zs w4 (unhide C4) (by omega) w2.heap.size (by omega) (fun h b off e => by have := unhide HL h b off e; omega) b3 Z.length c3 Z (unhide O4) (by omega) (unhide HZB) (by omega)).mono ?_
    rintro e w5 ⟨ys, ro, rc, q5, rfl, hyl, hyb, o5, c5, hq5, g5⟩
    have G5 : w.grownBy w5 none := grown_new G4 g5 (fun g e => by simp at e; omega)
    have R5 := hide (own_rd o5)
    have hle := own_wide o5
    have HYB := hide hyb
    clear o5 c5 hyb
    go_wp2
    go_ret
    exact ⟨ys, rc, ro, rfl, by omega, unhide HYB, unhide R5, hle, G5⟩

end Go.Proofs.Ytdopiekdoaimkaa
