/-
  The order of blocks in the specification.
-/
import Derived.Test.YtoeehfjbnbbijaaGeoUnits
import Derived.Maps.AppendAt
import Derived.Deep.AppendLies
namespace Go.Proofs.Ytoeehfjbnbbijaa
open Go.RowKit

/-- A row of lists of places, all its rows the call's own, from base on and below lim. -/
def OwnL (w : World) (base lim : Nat) (v : Value) (Ls : List (List Pl)) : Prop :=
  ∃ vs : List Value, w.ownsRow base 49 1 v Ls.length vs ∧ (∀ g, v.ownBlock = some g → g < lim) ∧
    ∀ i (h : i < Ls.length), ∃ u, vs[i]? = some u ∧ w.ownsRow base 57 3 u (Ls[i]).length (plCells Ls[i]) ∧ (∀ g, u.ownBlock = some g → g < lim ∧ v.ownBlock ≠ some g)

section
variable {w w' : World} {base lim : Nat} {v : Value} {Ls : List (List Pl)}
theorem OwnL.beside (h : OwnL w base lim v Ls) {row : Option Nat} (hg : w.grownBy w' row) (hr : ∀ g, row = some g → lim ≤ g) {lim' : Nat} (hl : lim ≤ lim') : OwnL w' base lim' v Ls := by
  obtain ⟨vs, h1, h2, h3⟩ := h
  refine ⟨vs, own_beneath h1 hg (fun g g' e e' => by have := h2 g e; have := hr g' e'; omega), fun g e => by have := h2 g e; omega, fun i hi => ?_⟩
  obtain ⟨u, e, h4, h5⟩ := h3 i hi
  exact ⟨u, e, own_beneath h4 hg (fun g g' e e' => by have := (h5 g e).1; have := hr g' e'; omega), fun g e => ⟨by have := (h5 g e).1; omega, (h5 g e).2⟩⟩
theorem OwnL.mono {base' : Nat} (h : OwnL w base lim v Ls) (hb : base' ≤ base) : OwnL w base' lim v Ls := by
  obtain ⟨vs, h1, h2, h3⟩ := h
  exact ⟨vs, own_base h1 hb, h2, fun i hi => by obtain ⟨u, e, h4, h5⟩ := h3 i hi; exact ⟨u, e, own_base h4 hb, h5⟩⟩
theorem OwnL.nil (w : World) (base lim : Nat) : OwnL w base lim (.slice none 0 0) [] :=
  ⟨[], World.ownsRow_nil _ _ _ _, fun g e => by simp [Value.ownBlock] at e, fun i hi => absurd hi (by simp)⟩
theorem OwnL.push {u v' : Value} {L : List Pl} {vs : List Value} (h1 : w.ownsRow base 49 1 v Ls.length vs) (h2 : ∀ g, v.ownBlock = some g → g < lim)
    (h3 : ∀ i (h : i < Ls.length), ∃ u, vs[i]? = some u ∧ w.ownsRow base 57 3 u (Ls[i]).length (plCells Ls[i]) ∧ (∀ g, u.ownBlock = some g → g < lim ∧ v.ownBlock ≠ some g))
    (hu : w.ownsRow base 57 3 u L.length (plCells L)) (hul : ∀ g, u.ownBlock = some g → lim ≤ g) (hbig : lim ≤ w.heap.size)
    (hown : w'.ownsRow base 49 1 v' (Ls.length + 1) (vs ++ [u])) (hg : w.grownBy w' v.ownBlock) (hat : v'.ownBlock = v.ownBlock ∨ v'.ownBlock = some w.heap.size) : OwnL w' base w'.heap.size v' (Ls ++ [L]) := by
  have hvl : vs.length = Ls.length := by have := h1.1; simpa using this
  have hsz := hg.size
  have hlt : ∀ g, v'.ownBlock = some g → g < w'.heap.size := fun g e => (hown.lt g e).2
  refine ⟨vs ++ [u], by simpa using hown, hlt, fun i hi => ?_⟩
  by_cases e : i < Ls.length
  · obtain ⟨x, e1, h4, h5⟩ := h3 i e
    refine ⟨x, by rw [List.getElem?_append_left (by omega)]; exact e1, ?_, fun g eg => ?_⟩
    · rw [List.getElem_append_left e]
      exact own_beneath h4 hg (fun g g' e e' => by intro e2; subst e2; exact (h5 g e).2 e')
    · have := (h5 g eg).1
      refine ⟨by omega, fun e' => ?_⟩
      rcases hat with h | h
      · rw [h] at e'; exact (h5 g eg).2 e'
      · rw [h] at e'; simp at e'; omega
  · obtain rfl : i = Ls.length := by simp at hi; omega
    refine ⟨u, by rw [List.getElem?_append_right (by omega), hvl]; simp, ?_, fun g eg => ?_⟩
    · rw [List.getElem_append_right (by omega)]
      simp only [Nat.sub_self, List.getElem_cons_zero]
      exact own_beneath hu hg (fun g g' e e' => by have := hul g e; have := h2 g' e'; omega)
    · have h6 := hul g eg
      have h7 := (hu.lt g eg).2
      refine ⟨by omega, fun e' => ?_⟩
      rcases hat with h | h
      · rw [h] at e'; have := h2 g e'; omega
      · rw [h] at e'; simp at e'; omega
end

theorem Try.info57 : (Try.prog.info? 57).map (fun i => (i.zero, i.size, i.bytes)) = some (some (.agg #[.int .i64 0, .int .i64 0, .int .i64 0]), 3, 24) := by kernel_rfl
theorem Try.info49 : (Try.prog.info? 49).map (fun i => (i.zero, i.size, i.bytes)) = some (some (.slice none 0 0), 1, 24) := by kernel_rfl

set_option maxRecDepth 20000 in
set_option maxHeartbeats 3200000 in
theorem specOrder1 (p wd ht rs : Int) (ao : Option Addr) (n cap : Nat) (C : Nat → Nat → Int) (w : World) (hr : RdC w ao n C) (hg : Geo wd ht n C (mostA 1 C 1 n) (mostA 1 C 2 n)) (co : Option Addr) (ccap c : Nat) (hcs : Rd .i64 w co 1 [(c : Int)]) (hc : c < n) (a b u v : Int) (HA : Hid (upI (wd * C c 1) (mostA 1 C 1 n) = a)) (HB : Hid (upI (ht * C c 2) (mostA 1 C 2 n) = b)) (HU : Hid (upI a 8 = u)) (HV : Hid (upI b 8 = v)) :
    Calls Try.prog 59 #[.agg #[.int .i64 p, .int .i64 wd, .int .i64 ht, .int .i64 rs, .slice ao n cap], .slice co 1 ccap] w fun e w' => ∃ x, e = .returned x ∧ OwnL w' w.heap.size w'.heap.size x (r1To c u.toNat v.toNat) ∧ w.grownBy w' none := by
  obtain ⟨wx, hW0⟩ : ∃ wx, w.alloc (.cells #[.int .i64 p, .int .i64 wd, .int .i64 ht, .int .i64 rs, .slice ao n cap] 40) = wx := ⟨_, rfl⟩
  have G0 : w.grownBy wx none := by rw [← hW0]; exact grown_alloc (World.grownBy.refl _ _) _
  have B0 : Hid (wx.heap[w.heap.size]? = some (.cells #[.int .i64 p, .int .i64 wd, .int .i64 ht, .int .i64 rs, .slice ao n cap] 40 (0, 0))) := by rw [← hW0]; exact heap_alloc_new w _
  have hwz : wx.heap.size = w.heap.size + 1 := by rw [← hW0]; simp
  obtain ⟨wy, hW1⟩ : ∃ wy, wx.alloc (.cells #[] 49) = wy := ⟨_, rfl⟩
  have G1 : wx.grownBy wy none := by rw [← hW1]; exact grown_alloc (World.grownBy.refl _ _) _
  have hyz : wy.heap.size = w.heap.size + 2 := by rw [← hW1]; simp; omega
  have O1 : Hid (OwnL wy wx.heap.size wy.heap.size (.slice (some ⟨w.heap.size + 1, 0, none⟩) 0 0) []) := by
    refine ⟨[], ?_, fun g e => by simp [Value.ownBlock] at e; omega, fun i hi => absurd hi (by simp)⟩
    have := World.ownsRow_lit (e := 49) (size := 1) wx #[] 0 (Nat.le_refl _) (by unfold maxLen; omega) rfl
    rw [hW1, hwz] at this
    rw [hwz]; exact this
  have HR := hide (hr.grown (grown_trans G0 G1))
  have HC := hide (hcs.grown (grown_trans G0 G1))
  have HG := hide hg
  have HG0 := hide G0
  have HG1 := hide G1
  have HWY : Hid ((w.alloc (.cells #[.int .i64 p, .int .i64 wd, .int .i64 ht, .int .i64 rs, .slice ao n cap] 40)).alloc (.cells #[] 49) = wy) := by rw [hW0]; exact hW1
  obtain ⟨_, k1, k2, k3, k4⟩ := frameCells' ((G1.block w.heap.size (by omega) (by simp)).trans (unhide B0))
  obtain ⟨k0, _, _, _, _⟩ := frameCells' ((G1.block w.heap.size (by omega) (by simp)).trans (unhide B0))
  obtain ⟨cb, coff, rfl, hcx⟩ := (hcs.grown G0).2 0 (by omega)
  have HCX := hide hcx
  have hcc := G1.cell hcx (by simp)
  rw [Nat.add_zero] at hcc
  rw [Nat.add_zero] at HCX
  simp only [List.getD_cons_zero] at hcc
  have ha : 1 ≤ a ∧ a ≤ 4096 := by
    have P1 := mul_share (a := wd) ⟨hg.wd.1, by have := hg.wd; omega⟩ (hg.ch c hc)
    have := upI_pos P1.1 hg.hb.1
    rw [unhide HA] at this; omega
  have hb : 1 ≤ b ∧ b ≤ 4096 := by
    have P1 := mul_share (a := ht) ⟨hg.ht.1, by have := hg.ht; omega⟩ (hg.cv c hc)
    have := upI_pos P1.1 hg.vb.1
    rw [unhide HB] at this; omega
  have hu := upI_eight ha.1 (by omega)
  have hv := upI_eight hb.1 (by omega)
  rw [unhide HU] at hu
  rw [unhide HV] at hv
  obtain ⟨U, rfl⟩ := Int.eq_ofNat_of_zero_le (show 0 ≤ u by omega)
  obtain ⟨V, rfl⟩ := Int.eq_ofNat_of_zero_le (show 0 ≤ v by omega)
  clear hr hg hcs hW0 hW1 G0 G1 hcx
  go_enter Try.func59, Try.ntmps59
  go_wp2_with fail
  rw [unhide HWY]
  clear HWY
  go_region_held3 (fun w' => w'.cell? ⟨w.heap.size, 0, none⟩ = some (.int .i64 p) ∧ w'.cell? ⟨w.heap.size, 1, none⟩ = some (.int .i64 wd) ∧ w'.cell? ⟨w.heap.size, 2, none⟩ = some (.int .i64 ht) ∧ w'.cell? ⟨w.heap.size, 3, none⟩ = some (.int .i64 rs) ∧ w'.cell? ⟨w.heap.size, 4, none⟩ = some (.slice ao n cap) ∧ w'.cell? ⟨cb, coff, none⟩ = some (.int .i64 (c : Int))) (first | exact ⟨k0, k1, k2, k3, k4, hcc⟩ | exact ⟨g2.cell k0 (by simp), g2.cell k1 (by simp), g2.cell k2 (by simp), g2.cell k3 (by simp), g2.cell k4 (by simp), g2.cell hcc (by simp)⟩) ((go_at_call 79; refine (specSize p wd ht rs ao n cap C wy.drew ((unhide HR).grown (grown_drew (World.grownBy.refl _ _))) _ _ (unhide HG) c hc a b (unhide HA) (unhide HB)).mono ?_; rintro e w2 ⟨rfl, g2⟩))
  have g2' : wy.grownBy w2 none := grown_trans (grown_drew (World.grownBy.refl _ _)) g2
  have HO2 := hide ((unhide O1).beside g2' (fun g e => by simp at e) g2'.size)
  have HY2 := hide (grown_trans (unhide HG1) g2')
  have HCC := hide (g2'.cell hcc (by simp))
  clear g2 g2' k0 k1 k2 k3 k4 hcc O1 HR HC
  obtain ⟨ic, hic, hz0, hz1, hz2⟩ := info_parts Try.info49
  have hwx1 := (unhide HY2).size
  go_wp2
  go_loopw [5, 8] (fun o i wr => ∃ r : Nat, r ≤ V ∧ i = .int .i64 r ∧ OwnL wr wx.heap.size wr.heap.size o (r1To c U r) ∧ wx.grownBy wr none ∧ wr.cell? ⟨cb, coff, none⟩ = some (.int .i64 (c : Int))) (fun _ i _ => V - (intOf i).toNat)
  case atStart => exact ⟨0, Nat.zero_le _, rfl, unhide HO2, unhide HY2, unhide HCC⟩
  case round =>
    obtain ⟨r, hrV, rfl, hO, hG, hcc⟩ := hrel
    have HO := hide hO
    have HGr := hide hG
    clear hO hG
    go_wp2_with fail
    refine (specUp b 8 V (by omega) (by omega) (unhide HV) wr).mono ?_
    rintro e wz ⟨rfl, rfl⟩
    by_cases hlt : r < V
    · go_wp2
      go_loopw [5, 9] (fun o i wq => ∃ k : Nat, k ≤ U ∧ i = .int .i64 k ∧ OwnL wq wx.heap.size wq.heap.size o (r1To c U r ++ k1To c r k) ∧ wx.grownBy wq none ∧ wq.cell? ⟨cb, coff, none⟩ = some (.int .i64 (c : Int))) (fun _ i _ => U - (intOf i).toNat)
      case atStart => exact ⟨0, Nat.zero_le _, rfl, by rw [k1To, List.append_nil]; exact unhide HO, unhide HGr, hcc⟩
      case round =>
        obtain ⟨k, hkU, rfl, hO, hG, hcc⟩ := hrel
        obtain ⟨vs, ho1, ho2, ho3⟩ := hO
        have HGq := hide hG
        have hGs := hG.size
        have HO1 := hide ho1
        have HO2 := hide ho2
        have HO3 := hide ho3
        clear hG ho1 ho2 ho3 HO
        have hrU : r * U ≤ 1024 * 1024 := Nat.mul_le_mul (by omega) (by omega)
        have hlen : (r1To c U r ++ k1To c r k).length = r * U + k := by rw [List.length_append, r1To_len, k1To_len]
        go_wp2_with fail
        refine (specUp a 8 U (by omega) (by omega) (unhide HU) wr).mono ?_
        rintro e wz ⟨rfl, rfl⟩
        by_cases hltk : k < U
        · go_wp2_with (at_builtin; refine wpList_append_own_at _ rfl _ _ 95 rfl wx.heap.size 49 ic _ 1 24 Try.underlying95 hic hz0 hz1 hz2 rfl (by decide) _ _ vs rfl (((unhide HO1).alloc _).alloc _) ⟨wr.heap.size + 1, 0, none⟩ 1 1 [.slice (some ⟨wr.heap.size, 0, none⟩) 1 1] rfl rfl ?n1 ?n2 ?n3 ?n4 ?n5 ?_)
          case n1 =>
            have hnew := heap_alloc_new (wr.alloc (.cells #[.int .i64 (c : Int), .int .i64 (r : Int), .int .i64 (k : Int)] 57)) (.cells #[.slice (some ⟨wr.heap.size, 0, none⟩) 1 1] 49)
            simp only [World.size_alloc] at hnew
            exact World.news_of_block (cs := #[.slice (some ⟨wr.heap.size, 0, none⟩) 1 1]) (t := 49) (fr := (0, 0)) hnew
          case n2 => intro u hu; simp at hu; subst hu; rfl
          case n3 => unfold maxLen; omega
          case n4 => omega
          case n5 => simp; omega
          intro v8 w8 hown8 hgrow8 _ hat8
          have A1 : wr.grownBy (wr.alloc (.cells #[.int .i64 (c : Int), .int .i64 (r : Int), .int .i64 (k : Int)] 57)) none := World.grownBy_alloc _ _ _
          have hu1 := World.ownsRow_lit (base := wr.heap.size) (e := 57) (size := 3) wr #[.int .i64 (c : Int), .int .i64 (r : Int), .int .i64 (k : Int)] 1 (Nat.le_refl _) (by unfold maxLen; omega) rfl
          have hu2 := hu1.alloc (.cells #[.slice (some ⟨wr.heap.size, 0, none⟩) 1 1] 49)
          have P := OwnL.push (L := [((c : Int), (r : Int), (k : Int))]) (((unhide HO1).alloc _).alloc _) (unhide HO2) (fun i hi => by obtain ⟨u, e1, e2, e3⟩ := unhide HO3 i hi; exact ⟨u, e1, (e2.alloc _).alloc _, e3⟩) (own_base hu2 hGs) (fun g e => by simp [Value.ownBlock] at e; omega) (by simp; omega) (by rw [hlen, hwz]; exact hown8) hgrow8 (by simpa using hat8)
          have A2 : wr.grownBy ((wr.alloc (.cells #[.int .i64 (c : Int), .int .i64 (r : Int), .int .i64 (k : Int)] 57)).alloc (.cells #[.slice (some ⟨wr.heap.size, 0, none⟩) 1 1] 49)) none := grown_alloc A1 _
          have G8 := grown_new (grown_trans (unhide HGq) A2) hgrow8 (fun g e => by have := ((unhide HO1).lt g e).1; omega)
          have hc8 : w8.cell? ⟨cb, coff, none⟩ = some (.int .i64 (c : Int)) := by
            refine hgrow8.cell (A2.cell hcc (by simp)) ?_
            intro e
            have h1 := ((unhide HO1).lt cb e.symm).1
            have h2 := World.block_lt_of_cell? wx _ (unhide HCX)
            simp at h2
            omega
          have HP := hide (And.intro P (And.intro G8 hc8))
          clear P G8 hc8 hown8 hgrow8 hat8 hu1 hu2 A1 A2 HGq HO1 HO2 HO3
          go_wp2
          go_roundw
          case rel =>
            obtain ⟨P, G8, hc8⟩ := unhide HP
            exact ⟨k + 1, by omega, by go_num, by rw [k1To, ← List.append_assoc]; exact P, G8, hc8⟩
          case measure => simp [intOf]; omega
        · obtain rfl : k = U := by omega
          go_wp2
          go_roundw
          case rel => exact ⟨r + 1, by omega, by go_num, by rw [r1To]; exact ⟨vs, unhide HO1, unhide HO2, unhide HO3⟩, unhide HGq, hcc⟩
          case measure => simp [intOf]; omega
    · obtain rfl : r = V := by omega
      go_wp2
      go_ret
      exact ⟨_, rfl, by rw [Int.toNat_natCast, Int.toNat_natCast]; exact OwnL.mono (unhide HO) (by omega), grown_trans (unhide HG0) (unhide HGr)⟩

end Go.Proofs.Ytoeehfjbnbbijaa
