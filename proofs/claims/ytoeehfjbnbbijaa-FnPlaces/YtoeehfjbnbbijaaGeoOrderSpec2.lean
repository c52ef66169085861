/-
  The order of blocks of several components in the specification.
-/
import Derived.Test.YtoeehfjbnbbijaaGeoOrderSpec
import Derived.Test.YtoeehfjbnbbijaaHeldTail
namespace Go.Proofs.Ytoeehfjbnbbijaa
open Go.RowKit

theorem iTo_len {n : Nat} {C : Nat → Nat → Int} {cs : List Int} {m : Nat} (hc : compsTo n cs m = true) (hh : ∀ i, i < n → 1 ≤ C i 1 ∧ C i 1 ≤ 4) (hv : ∀ i, i < n → 1 ≤ C i 2 ∧ C i 2 ≤ 4) (r k : Nat) : ∀ i, i ≤ m → (iTo C cs r k i).length ≤ 16 * i
  | 0, _ => by simp [iTo]
  | i + 1, hi => by
    have ih := iTo_len hc hh hv r k i (by omega)
    obtain ⟨⟨h1, h2⟩, _⟩ := compsTo_at hc i (by omega)
    have a1 := hh (cs.getD i 0).toNat (by omega)
    have a2 := hv (cs.getD i 0).toNat (by omega)
    rw [iTo, List.length_append, yTo_len]
    have : (C (cs.getD i 0).toNat 2).toNat * (C (cs.getD i 0).toNat 1).toNat ≤ 4 * 4 := Nat.mul_le_mul (by omega) (by omega)
    omega

theorem own_snoc {w : World} {lim : Nat} {e : TypeId} {v : Value} {X : List Pl} {p : Pl} (h : w.ownsRow lim e 3 v (X.length + 1) (plCells X ++ [.int .i64 p.1, .int .i64 p.2.1, .int .i64 p.2.2])) : w.ownsRow lim e 3 v (X ++ [p]).length (plCells (X ++ [p])) := by
  rw [plCells_app, List.length_append]; exact h
theorem compCells4' {w : World} {g : Nat} {a b c d : Value} {t : TypeId} (hb : w.heap[g]? = some (.cells #[a, b, c, d] t (0, 0))) : w.cell? ⟨g, 1, none⟩ = some b ∧ w.cell? ⟨g, 2, none⟩ = some c :=
  ⟨by rw [cell_of_row w _ 1 _ _ (0, 0) hb]; rfl, by rw [cell_of_row w _ 2 _ _ (0, 0) hb]; rfl⟩

theorem wp_append_own_at {P : Program} {o : Oper} {a : Act} {w : World} {K : Act → World → Prop} {Q : Exit → Act → World → Prop} (s x : Operand) (t : TypeId)
    (ho : o.op = .call { callee := .builtin .append, args := #[s, x], argTypes := #[t, t] })
    (base : Nat) (e : TypeId) (i : TypeInfo) (z : Value) (size bytes : Nat) (ht : P.underlying t = some (.slice e)) (hi : P.info? e = some i) (hz : i.zero = some z)
    (hsize : i.size = size) (hby : i.bytes = bytes) (hzs : z.cells.size = size) (hsz : 0 < size)
    (v : Value) (n : Nat) (xs : List Value) (hs : a.eval s = v) (hown : w.ownsRow base e size v n xs)
    (ad : Addr) (m c : Nat) (news : List Value) (hx : a.eval x = .slice (some ad) m c) (hl : news.length = m * size) (hnews : ∀ j u, news[j]? = some u → w.cell? (ad.add j) = some u) (h1 : ∀ u ∈ news, u.oneCell' = true)
    (h63 : n + m ≤ maxLen) (hbytes : (n + m) * bytes ≤ 140737488355328) (hbase : base ≤ w.heap.size)
    (h : ∀ v' w', w'.ownsRow base e size v' (n + m) (xs ++ news) → w.grownBy w' v.ownBlock → (v'.ownBlock = v.ownBlock ∨ v'.ownBlock = some w.heap.size) → K (a.put o.dst v') w') : o.wp P a w K Q := by
  obtain ⟨v', w', hr, h2, h3, h4, h5⟩ := run_append_own_at (P := P) w base t o.type e i z size bytes ht hi hz hsize hby hzs hsz v n xs hown ad m c news hl hnews h1 h63 hbytes hbase
  unfold Oper.wp execOp
  simp only [ho, resolve, invoke, builtin, Sem.run_bind, Sem.run_pure, Result.andThen_ok, List.map_toArray, List.map_cons, List.map_nil, hs, hx, hr]
  exact h v' w' h2 h3 h5

set_option maxRecDepth 20000 in
set_option maxHeartbeats 6400000 in
theorem specOrderN (p wd ht rs : Int) (ao : Option Addr) (n cap : Nat) (C : Nat → Nat → Int) (w : World) (hr : RdC w ao n C) (hg : Geo wd ht n C (mostA 1 C 1 n) (mostA 1 C 2 n)) (co : Option Addr) (m ccap : Nat) (cs : List Int) (hcs : Rd .i64 w co m cs) (hc : compsTo n cs m = true) (hm1 : m ≠ 1) (u v : Int) (HU : Hid (upI wd (8 * mostA 1 C 1 n) = u)) (HV : Hid (upI ht (8 * mostA 1 C 2 n) = v)) :
    Calls Try.prog 59 #[.agg #[.int .i64 p, .int .i64 wd, .int .i64 ht, .int .i64 rs, .slice ao n cap], .slice co m ccap] w fun e w' => ∃ x, e = .returned x ∧ OwnL w' w.heap.size w'.heap.size x (rTo C cs u.toNat v.toNat) ∧ w.grownBy w' none := by
  have hml := hcs.1
  have hmn := compsTo_len hc
  have hn4 := hg.n4
  have hmI : ((m : Int) == 1) = false := by simp; omega
  obtain ⟨wx, hW0⟩ : ∃ wx, w.alloc (.cells #[.int .i64 p, .int .i64 wd, .int .i64 ht, .int .i64 rs, .slice ao n cap] 40) = wx := ⟨_, rfl⟩
  have G0 : w.grownBy wx none := by rw [← hW0]; exact grown_alloc (World.grownBy.refl _ _) _
  have B0 : Hid (wx.heap[w.heap.size]? = some (.cells #[.int .i64 p, .int .i64 wd, .int .i64 ht, .int .i64 rs, .slice ao n cap] 40 (0, 0))) := by rw [← hW0]; exact heap_alloc_new w _
  have hwz : wx.heap.size = w.heap.size + 1 := by rw [← hW0]; simp
  obtain ⟨wy, hW1⟩ : ∃ wy, wx.alloc (.cells #[] 49) = wy := ⟨_, rfl⟩
  have G1 : wx.grownBy wy none := by rw [← hW1]; exact grown_alloc (World.grownBy.refl _ _) _
  have hyz : wy.heap.size = w.heap.size + 2 := by rw [← hW1]; simp; omega
  have O1 : Hid (OwnL wy wx.heap.size wy.heap.size (.slice (some ⟨w.heap.size + 1, 0, none⟩) 0 0) []) := by
    refine ⟨[], ?_, fun g e => by simp [Value.ownBlock] at e; omega, fun i hi => absurd hi (by simp)⟩
    have := World.ownsRow_lit (e := 49) (size := 1) wx #[] 0 (Nat.le_refl _) (by unfold maxLen; omega) rfl
    rw [hW1, hwz] at this
    rw [hwz]; exact this
  have HR := hide (hr.grown (grown_trans G0 G1))
  have HRX := hide (hr.grown G0)
  have HCX := hide (hcs.grown G0)
  have HG := hide hg
  have HG0 := hide G0
  have HG1 := hide G1
  have HWY : Hid ((w.alloc (.cells #[.int .i64 p, .int .i64 wd, .int .i64 ht, .int .i64 rs, .slice ao n cap] 40)).alloc (.cells #[] 49) = wy) := by rw [hW0]; exact hW1
  obtain ⟨k0, k1, k2, k3, k4⟩ := frameCells' ((G1.block w.heap.size (by omega) (by simp)).trans (unhide B0))
  have hu := upI_pos (d := 8 * mostA 1 C 1 n) hg.wd.1 (by have := hg.hb; omega)
  have hv := upI_pos (d := 8 * mostA 1 C 2 n) hg.ht.1 (by have := hg.vb; omega)
  have hwd := hg.wd
  have hht := hg.ht
  have HHH := hide hg.ch
  have HVV := hide hg.cv
  have HC := hide hc
  rw [unhide HU] at hu
  rw [unhide HV] at hv
  obtain ⟨U, rfl⟩ := Int.eq_ofNat_of_zero_le (show 0 ≤ u by omega)
  obtain ⟨V, rfl⟩ := Int.eq_ofNat_of_zero_le (show 0 ≤ v by omega)
  obtain ⟨ic, hic, hz0, hz1, hz2⟩ := info_parts Try.info49
  obtain ⟨ip, hip, hy0, hy1, hy2⟩ := info_parts Try.info57
  clear hr hg hcs hW0 hW1 G0 G1 hc
  go_enter Try.func59, Try.ntmps59
  go_wp2_with fail
  rw [unhide HWY]
  clear HWY
  refine (specUnits p wd ht rs ao n cap C wy (unhide HR) _ _ (unhide HG) U V (unhide HU) (unhide HV)).mono ?_
  rintro e w2 ⟨rfl, g2⟩
  have g2' : wy.grownBy w2 none := g2
  have HO2 := hide ((unhide O1).beside g2' (fun g e => by simp at e) g2'.size)
  have HY2 := hide (grown_trans (unhide HG1) g2')
  clear g2 g2' k0 k1 k2 k3 k4 O1 HR
  have hwx1 := (unhide HY2).size
  go_wp2
  go_loopw [5, 12] (fun o i wr => ∃ r : Nat, r ≤ V ∧ i = .int .i64 r ∧ OwnL wr wx.heap.size wr.heap.size o (rTo C cs U r) ∧ wx.grownBy wr none) (fun _ i _ => V - (intOf i).toNat)
  case atStart => exact ⟨0, Nat.zero_le _, rfl, unhide HO2, unhide HY2⟩
  case round =>
    obtain ⟨r, hrV, rfl, hO, hG⟩ := hrel
    have HO := hide hO
    have HGr := hide hG
    clear hO hG
    by_cases hlt : r < V
    · go_wp2
      go_loopw [5, 13] (fun o i wq => ∃ k : Nat, k ≤ U ∧ i = .int .i64 k ∧ OwnL wq wx.heap.size wq.heap.size o (rTo C cs U r ++ kTo C cs r k) ∧ wx.grownBy wq none) (fun _ i _ => U - (intOf i).toNat)
      case atStart => exact ⟨0, Nat.zero_le _, rfl, by rw [kTo, List.append_nil]; exact unhide HO, unhide HGr⟩
      case round =>
        obtain ⟨k, hkU, rfl, hO, hG⟩ := hrel
        have hGs := hG.size
        have HOk := hide hO
        have HGq := hide hG
        clear hG hO HO
        have hrU : r * U ≤ 256 * 256 := Nat.mul_le_mul (by omega) (by omega)
        have hlen : (rTo C cs U r ++ kTo C cs r k).length = r * U + k := by rw [List.length_append, rTo_len, kTo_len]
        by_cases hltk : k < U
        · obtain ⟨wk, hwk⟩ : ∃ wk, wr.alloc (.cells #[] 57) = wk := ⟨_, rfl⟩
          have gk : wr.grownBy wk none := by rw [← hwk]; exact grown_alloc (World.grownBy.refl _ _) _
          have uk := World.ownsRow_lit (base := wr.heap.size) (e := 57) (size := 3) wr #[] 0 (Nat.le_refl _) (by unfold maxLen; omega) rfl
          rw [hwk] at uk
          have HUK := hide uk
          have HOW := hide ((unhide HOk).beside gk (fun g e => by simp at e) (Nat.le_refl wr.heap.size))
          have HGK := hide (grown_trans (unhide HGq) gk)
          have HWK := hide hwk
          obtain ⟨lim, hlim⟩ : ∃ lim, wr.heap.size = lim := ⟨_, rfl⟩
          rw [hlim] at HUK HOW
          have HLIM := hide hlim
          clear hwk gk uk HOk HGq
          go_wp2
          rw [unhide HWK]
          clear HWK
          go_loopw [14, 15] (fun uv i wi => ∃ i' : Nat, i' ≤ m ∧ i = .int .i64 i' ∧ wi.ownsRow lim 57 3 uv (iTo C cs r k i').length (plCells (iTo C cs r k i')) ∧ OwnL wi wx.heap.size lim u5 (rTo C cs U r ++ kTo C cs r k) ∧ wx.grownBy wi none ∧ lim ≤ wi.heap.size) (fun _ i _ => m - (intOf i).toNat)
          case atStart => exact ⟨0, Nat.zero_le _, rfl, unhide HUK, unhide HOW, unhide HGK, by have := (unhide HUK).lt lim rfl; omega⟩
          case round =>
            obtain ⟨i, him, rfl, hui, hoi, hgi, hli⟩ := hrel
            have HUI := hide hui
            have HOI := hide hoi
            have HGI := hide hgi
            have hgis := hgi.size
            have hil := iTo_len (unhide HC) (unhide HHH) (unhide HVV) r k i him
            clear hui hoi hgi HUK HOW HGK
            by_cases hlti : i < m
            · obtain ⟨cb, coff, rfl, hcc⟩ := ((unhide HCX).grown (unhide HGI)).2 i hlti
              obtain ⟨⟨hc0, hc1⟩, _⟩ := compsTo_at (unhide HC) i hlti
              have HIS : Hid (iTo C cs r k (i + 1) = iTo C cs r k i ++ yTo (cs.getD i 0) (r * C (cs.getD i 0).toNat 2) (k * C (cs.getD i 0).toNat 1) (C (cs.getD i 0).toNat 1).toNat (C (cs.getD i 0).toNat 2).toNat) := rfl
              obtain ⟨cn, hcn⟩ := Int.eq_ofNat_of_zero_le hc0
              rw [hcn] at hcc hc1 HIS
              rw [Int.toNat_natCast] at HIS
              have hcl : cn < n := by omega
              obtain ⟨fb, foff, rfl, hff⟩ := ((unhide HRX).grown (unhide HGI)) cn hcl
              have f0 := hff 0 (by omega)
              have f1 := hff 1 (by omega)
              have f2 := hff 2 (by omega)
              have f3 := hff 3 (by omega)
              rw [Nat.add_zero] at f0
              obtain ⟨_, _, _, _, kf⟩ := frameCells' (((unhide HGI).block w.heap.size (by omega) (by simp)).trans (unhide B0))
              have hx1 := unhide HHH cn hcl
              have hx2 := unhide HVV cn hcl
              have hcnE := hcn
              clear hff hcn hc0
              have hi0 : (i : Int) < (m : Int) := by omega
              have hcI : (cn : Int) < (n : Int) := by omega
              have KEEP : Hid (∀ o : Obj, (wr.alloc o).cell? ⟨w.heap.size, 4, none⟩ = some (.slice (some ⟨fb, foff, none⟩) n cap) ∧ (wr.alloc o).cell? ⟨cb, coff + i, none⟩ = some (.int .i64 (cn : Int)) ∧ (wr.alloc o).cell? ⟨fb, foff + cn * 4, none⟩ = some (.int .i64 (C cn 0)) ∧ (wr.alloc o).cell? ⟨fb, foff + cn * 4 + 1, none⟩ = some (.int .i64 (C cn 1)) ∧ (wr.alloc o).cell? ⟨fb, foff + cn * 4 + 2, none⟩ = some (.int .i64 (C cn 2)) ∧ (wr.alloc o).cell? ⟨fb, foff + cn * 4 + 3, none⟩ = some (.int .i64 (C cn 3))) := fun o => by
                have G : wr.grownBy (wr.alloc o) none := World.grownBy_alloc _ _ _
                exact ⟨G.cell kf (by simp), G.cell hcc (by simp), G.cell f0 (by simp), G.cell f1 (by simp), G.cell f2 (by simp), G.cell f3 (by simp)⟩
              have BX : Hid ((wr.alloc (.cells #[.int .i64 (C cn 0), .int .i64 (C cn 1), .int .i64 (C cn 2), .int .i64 (C cn 3)] 77)).drew.heap[wr.heap.size]? = some (.cells #[.int .i64 (C cn 0), .int .i64 (C cn 1), .int .i64 (C cn 2), .int .i64 (C cn 3)] 77 (0, 0))) := heap_alloc_new wr (.cells #[.int .i64 (C cn 0), .int .i64 (C cn 1), .int .i64 (C cn 2), .int .i64 (C cn 3)] 77)
              have GX : Hid (wr.grownBy (wr.alloc (.cells #[.int .i64 (C cn 0), .int .i64 (C cn 1), .int .i64 (C cn 2), .int .i64 (C cn 3)] 77)).drew none) := grown_drew (grown_alloc (World.grownBy.refl _ _) _)
              go_wp2
              go_region_held3 (fun w' => w'.cell? ⟨w.heap.size, 4, none⟩ = some (.slice (some ⟨fb, foff, none⟩) n cap) ∧ w'.cell? ⟨cb, coff + i, none⟩ = some (.int .i64 (cn : Int)) ∧ w'.cell? ⟨fb, foff + cn * 4, none⟩ = some (.int .i64 (C cn 0)) ∧ w'.cell? ⟨fb, foff + cn * 4 + 1, none⟩ = some (.int .i64 (C cn 1)) ∧ w'.cell? ⟨fb, foff + cn * 4 + 2, none⟩ = some (.int .i64 (C cn 2)) ∧ w'.cell? ⟨fb, foff + cn * 4 + 3, none⟩ = some (.int .i64 (C cn 3))) (first | exact ⟨kf, hcc, f0, f1, f2, f3⟩ | exact unhide KEEP _) (fail)
              clear KEEP kf hcc f0 f1 f2 f3
              generalize (wr.alloc (.cells #[.int .i64 (C cn 0), .int .i64 (C cn 1), .int .i64 (C cn 2), .int .i64 (C cn 3)] 77)).drew = wX at *
              have hgxl := (Array.getElem?_eq_some_iff.1 (unhide BX)).1
              have HUX : Hid (wX.ownsRow lim 57 3 u14 (iTo C cs r k i).length (plCells (iTo C cs r k i))) := own_grown (unhide HUI) (unhide GX)
              have HOX : Hid (OwnL wX wx.heap.size lim u5 (rTo C cs U r ++ kTo C cs r k)) := (unhide HOI).beside (unhide GX) (fun g e => by simp at e) (Nat.le_refl _)
              have HGX := hide (grown_trans (unhide HGI) (unhide GX))
              have HNE : Hid (∀ g, u14.ownBlock = some g → g ≠ wr.heap.size) := fun g e => by have := ((unhide HUI).lt g e).2; omega
              have HCC : Hid (∀ W : World, wx.grownBy W none → W.cell? ⟨cb, coff + i, none⟩ = some (.int .i64 (cn : Int))) := fun W hW => by
                obtain ⟨b', o', e', h'⟩ := ((unhide HCX).grown hW).2 i hlti
                simp at e'
                obtain ⟨rfl, rfl⟩ := e'
                rw [h', hcnE]
              obtain ⟨gx, hgx⟩ : ∃ gx, wr.heap.size = gx := ⟨_, rfl⟩
              rw [hgx] at BX HNE hgxl ⊢
              have hlgx : lim ≤ gx := by omega
              have HIS' := HIS
              clear HUI HOI HGI GX hgx
              generalize C cn 0 = x0 at *
              generalize hE1 : C cn 1 = x1 at *
              generalize hE2 : C cn 2 = x2 at *
              generalize C cn 3 = x3 at *
              clear hE1 hE2
              obtain ⟨H', rfl⟩ := Int.eq_ofNat_of_zero_le (show 0 ≤ x1 by omega)
              obtain ⟨V', rfl⟩ := Int.eq_ofNat_of_zero_le (show 0 ≤ x2 by omega)
              rw [Int.toNat_natCast, Int.toNat_natCast] at HIS
              have hA0 : 0 ≤ (r : Int) * (V' : Int) := Int.mul_nonneg (by omega) (by omega)
              have hA1 : (r : Int) * (V' : Int) ≤ 256 * 4 := Int.mul_le_mul (by omega) (by omega) (by omega) (by omega)
              have hB0 : 0 ≤ (k : Int) * (H' : Int) := Int.mul_nonneg (by omega) (by omega)
              have hB1 : (k : Int) * (H' : Int) ≤ 256 * 4 := Int.mul_le_mul (by omega) (by omega) (by omega) (by omega)
              have hwA := i64_in ((r : Int) * (V' : Int)) (by omega)
              have hwB := i64_in ((k : Int) * (H' : Int)) (by omega)
              generalize hAe : (r : Int) * (V' : Int) = A at *
              generalize hBe : (k : Int) * (H' : Int) = B at *
              have HAE := hide hAe
              have HBE := hide hBe
              clear HIS'
              generalize iTo C cs r k i = I0 at *
              go_wp2
              go_loopw [14, 17] (fun uv j wi => ∃ y : Nat, y ≤ V' ∧ j = .int .i64 y ∧ wi.ownsRow lim 57 3 uv (I0 ++ yTo cn A B H' y).length (plCells (I0 ++ yTo cn A B H' y)) ∧ (∀ g, uv.ownBlock = some g → g ≠ gx) ∧ OwnL wi wx.heap.size lim u5 (rTo C cs U r ++ kTo C cs r k) ∧ wx.grownBy wi none ∧ wi.heap[gx]? = some (.cells #[.int .i64 x0, .int .i64 (H' : Int), .int .i64 (V' : Int), .int .i64 x3] 77 (0, 0))) (fun _ j _ => V' - (intOf j).toNat)
              case atStart => exact ⟨0, Nat.zero_le _, rfl, by rw [yTo, List.append_nil]; exact unhide HUX, unhide HNE, unhide HOX, unhide HGX, unhide BX⟩
              case round =>
                obtain ⟨y, hyV, rfl, huy, hny, hoy, hgy, hby⟩ := hrel
                have HUY := hide huy
                have HNY := hide hny
                have HOY := hide hoy
                have HGY := hide hgy
                have HBY := hide hby
                have cy := compCells4' hby
                clear huy hny hoy hgy hby HUX HNE HOX HGX BX
                by_cases hlty : y < V'
                · go_wp2
                  go_loopw [14, 18] (fun uv j wi => ∃ z : Nat, z ≤ H' ∧ j = .int .i64 z ∧ wi.ownsRow lim 57 3 uv ((I0 ++ yTo cn A B H' y) ++ zTo cn (A + y) B z).length (plCells ((I0 ++ yTo cn A B H' y) ++ zTo cn (A + y) B z)) ∧ (∀ g, uv.ownBlock = some g → g ≠ gx) ∧ OwnL wi wx.heap.size lim u5 (rTo C cs U r ++ kTo C cs r k) ∧ wx.grownBy wi none ∧ wi.heap[gx]? = some (.cells #[.int .i64 x0, .int .i64 (H' : Int), .int .i64 (V' : Int), .int .i64 x3] 77 (0, 0))) (fun _ j _ => H' - (intOf j).toNat)
                  case atStart => exact ⟨0, Nat.zero_le _, rfl, by rw [zTo, List.append_nil]; exact unhide HUY, unhide HNY, unhide HOY, unhide HGY, unhide HBY⟩
                  case round =>
                    obtain ⟨z, hzH, rfl, huz, hnz, hoz, hgz, hbz⟩ := hrel
                    have HUZ := hide huz
                    have HNZ := hide hnz
                    have HOZ := hide hoz
                    have HGZ := hide hgz
                    have HBZ := hide hbz
                    have cz := compCells4' hbz
                    clear huz hnz hoz hgz hbz HUY HNY HOY HGY HBY cy
                    by_cases hltz : z < H'
                    · have hccz := unhide HCC wr (unhide HGZ)
                      have hwAy := i64_in (A + y) (by omega)
                      have hwBz := i64_in (B + z) (by omega)
                      have hyl : (yTo (cn : Int) A B H' y).length ≤ 16 := by
                        rw [yTo_len]
                        have : y * H' ≤ 4 * 4 := Nat.mul_le_mul (by omega) (by omega)
                        omega
                      have hull : ((I0 ++ yTo (cn : Int) A B H' y) ++ zTo (cn : Int) (A + y) B z).length ≤ 1000 := by
                        rw [List.length_append, List.length_append, zTo_len]; omega
                      have A1 : Hid (wr.grownBy (wr.drew.alloc (.cells #[.int .i64 (cn : Int), .int .i64 (A + y), .int .i64 (B + z)] 57)) none) := grown_alloc (grown_drew (World.grownBy.refl _ _)) _
                      go_wp2
                      refine wp_region_noPanic ?_
                      refine wp_region_tail (fun w' => w'.cell? ⟨cb, coff + i, none⟩ = some (.int .i64 (cn : Int)) ∧ w'.cell? ⟨gx, 1, none⟩ = some (.int .i64 (H' : Int)) ∧ w'.cell? ⟨gx, 2, none⟩ = some (.int .i64 (V' : Int))) [true, true, true, true, true, true, true, true, true, true, true, true, true, true, true, true, true, true, false, false, false] (by kernel_rfl) (fun _ _ _ _ _ h => h) rfl (by kernel_rfl) ⟨hccz, cz.1, cz.2⟩ ?_
                      iterate 18
                        refine heldF_take (v := ?_) (Or.inl ⟨by rfl, ?_⟩) ?_
                        rotate_left 1
                        · intro w' hSw
                          try dsimp only at hSw
                          go_simp
                          try with_reducible rfl
                        simp only [Act.put, List.setIfInBounds_toArray, List.set_cons_zero, List.set_cons_succ]
                      refine heldF_skip (heldF_skip (heldF_skip (heldF_nil ?_)))
                      iterate 18 refine tailF_skip ?_
                      refine tailF_step (fun K hK => ?_)
                      go_simp
                      refine hK.out _ _ ⟨(unhide A1).cell hccz (by simp), (unhide A1).cell cz.1 (by simp), (unhide A1).cell cz.2 (by simp)⟩ ?_
                      clear hK K
                      refine tailF_step (fun K hK => ?_)
                      rw [if_pos (by rfl)]
                      refine wp_append_own_at _ _ 49 rfl lim 57 ip _ 3 24 Try.underlying49 hip hy0 hy1 hy2 rfl (by decide) u14 _ _ rfl ((show wr.drew.ownsRow _ _ _ _ _ _ from unhide HUZ).alloc (.cells #[.int .i64 (cn : Int), .int .i64 (A + y), .int .i64 (B + z)] 57)) ⟨wr.heap.size, 0, none⟩ 1 1 [.int .i64 (cn : Int), .int .i64 (A + y), .int .i64 (B + z)] rfl rfl (World.news_of_block (cs := #[.int .i64 (cn : Int), .int .i64 (A + y), .int .i64 (B + z)]) (t := 57) (fr := (0, 0)) (heap_alloc_new wr.drew (.cells #[.int .i64 (cn : Int), .int .i64 (A + y), .int .i64 (B + z)] 57))) (by intro q hq; simp at hq; rcases hq with rfl | rfl | rfl <;> rfl) (by unfold maxLen; omega) (by omega) (Nat.le_trans hlgx (Nat.le_trans (Nat.le_of_lt (Array.getElem?_eq_some_iff.1 (unhide HBZ)).1) (unhide A1).size)) ?_
                      intro v8 w8 hown8 hgrow8 hat8
                      have hgxz := (Array.getElem?_eq_some_iff.1 (unhide HBZ)).1
                      have hbA := ((unhide A1).block gx hgxz (by simp)).trans (unhide HBZ)
                      have hb8 := (hgrow8.block gx (Array.getElem?_eq_some_iff.1 hbA).1 (fun e => unhide HNZ gx e.symm rfl)).trans hbA
                      have G8 : wx.grownBy w8 none := grown_new (grown_trans (unhide HGZ) (unhide A1)) hgrow8 (fun g e => by have := ((unhide HUZ).lt g e).1; omega)
                      have O8 : OwnL w8 wx.heap.size lim u5 (rTo C cs U r ++ kTo C cs r k) := ((unhide HOZ).beside (unhide A1) (fun g e => by simp at e) (Nat.le_refl _)).beside hgrow8 (fun g e => ((unhide HUZ).lt g e).1) (Nat.le_refl _)
                      have N8 : ∀ g, v8.ownBlock = some g → g ≠ gx := fun g e => by
                        rcases hat8 with h | h
                        · rw [h] at e; exact unhide HNZ g e
                        · rw [h] at e; simp at e; omega
                      have c8 := compCells4' hb8
                      have q8 := unhide HCC w8 G8
                      refine hK.out _ _ ⟨q8, c8.1, c8.2⟩ ?_
                      clear hK K
                      refine tailF_step (fun K hK => ?_)
                      go_simp
                      refine hK.out _ _ ⟨q8, c8.1, c8.2⟩ ?_
                      refine tailF_nil (NoPanic.normal ?_)
                      clear hK K
                      have HP := hide (And.intro hown8 (And.intro N8 (And.intro O8 (And.intro G8 hb8))))
                      clear hown8 N8 O8 G8 hb8 hat8 hgrow8 hbA HUZ HNZ HOZ HGZ HBZ cz hccz c8 q8
                      go_wp2
                      go_roundw
                      case rel =>
                        obtain ⟨P1, P2, P3, P4, P5⟩ := unhide HP
                        exact ⟨z + 1, by omega, by go_num, by rw [zTo, ← List.append_assoc]; exact own_snoc P1, P2, P3, P4, P5⟩
                      case measure => simp [intOf]; omega
                    · obtain rfl : z = H' := by omega
                      go_wp2
                      go_roundw
                      case rel => exact ⟨y + 1, by omega, by go_num, by rw [yTo, ← List.append_assoc]; exact unhide HUZ, unhide HNZ, unhide HOZ, unhide HGZ, unhide HBZ⟩
                      case measure => simp [intOf]; omega
                · obtain rfl : y = V' := by omega
                  go_wp2
                  go_roundw
                  case rel => exact ⟨i + 1, by omega, by go_num, by rw [unhide HIS]; exact unhide HUY, unhide HOY, unhide HGY, by have := (Array.getElem?_eq_some_iff.1 (unhide HBY)).1; omega⟩
                  case measure => simp [intOf]; omega
            · obtain rfl : i = m := by omega
              obtain ⟨so, sc, rfl⟩ := own_form (unhide HUI)
              obtain ⟨vs, ho1, ho2, ho3⟩ := unhide HOI
              have HO1 := hide ho1
              have HO2 := hide ho2
              have HO3 := hide ho3
              clear ho1 ho2 ho3
              have hne1 : ∀ q ∈ [(Value.slice so (iTo C cs r k i).length sc)], q.oneCell' = true := fun q hq => by rw [List.mem_singleton] at hq; rw [hq]; rfl
              have hml1 : (rTo C cs U r ++ kTo C cs r k).length + 1 ≤ maxLen := by unfold maxLen; omega
              have hml2 : ((rTo C cs U r ++ kTo C cs r k).length + 1) * 24 ≤ 140737488355328 := by omega
              have hml3 : wx.heap.size ≤ (wr.alloc (.cells #[(Value.slice so (iTo C cs r k i).length sc)] 49)).heap.size := by simp; omega
              have HN := hide (World.news_of_block (cs := #[(Value.slice so (iTo C cs r k i).length sc)]) (t := 49) (fr := (0, 0)) (heap_alloc_new wr (.cells #[(Value.slice so (iTo C cs r k i).length sc)] 49)))
              have HH1 := hide hne1
              have HH2 := hide hml1
              have HH3 := hide hml2
              have HH4 := hide hml3
              clear hne1 hml1 hml2 hml3
              go_wp2_with (at_builtin; refine wpList_append_own_at _ rfl _ _ 95 rfl wx.heap.size 49 ic _ 1 24 Try.underlying95 hic hz0 hz1 hz2 rfl (by decide) _ _ vs rfl ((unhide HO1).alloc _) ⟨wr.heap.size, 0, none⟩ 1 1 [(Value.slice so (iTo C cs r k i).length sc)] rfl rfl (unhide HN) (unhide HH1) (unhide HH2) (unhide HH3) (unhide HH4) ?_)
              intro v8 w8 hown8 hgrow8 _ hat8
              have A1 : wr.grownBy (wr.alloc (.cells #[(Value.slice so (iTo C cs r k i).length sc)] 49)) none := World.grownBy_alloc _ _ _
              have P := OwnL.push (L := iTo C cs r k i) ((unhide HO1).alloc (.cells #[(Value.slice so (iTo C cs r k i).length sc)] 49)) (unhide HO2) (fun j hj => by obtain ⟨q, e1, e2, e3⟩ := unhide HO3 j hj; exact ⟨q, e1, e2.alloc _, e3⟩) (own_base ((unhide HUI).alloc _) (by omega)) (fun g e => ((unhide HUI).lt g e).1) (by simp; omega) (by first | exact hown8 | (rw [hlen]; exact hown8) | (rw [hlen, hwz]; exact hown8)) hgrow8 (by simpa using hat8)
              have G8 := grown_new (grown_trans (unhide HGI) A1) hgrow8 (fun g e => by have := ((unhide HO1).lt g e).1; omega)
              have HP := hide (And.intro P G8)
              clear P G8 hown8 hgrow8 hat8 A1 HUI HOI HGI HO1 HO2 HO3
              go_wp2
              go_roundw
              case rel =>
                obtain ⟨P, G8⟩ := unhide HP
                exact ⟨k + 1, by omega, by go_num, by rw [kTo, ← List.append_assoc, hml]; exact P, G8⟩
              case measure => simp [intOf]; omega
        · obtain rfl : k = U := by omega
          go_wp2
          go_roundw
          case rel => exact ⟨r + 1, by omega, by go_num, by rw [rTo]; exact unhide HOk, unhide HGq⟩
          case measure => simp [intOf]; omega
    · obtain rfl : r = V := by omega
      go_wp2
      go_ret
      exact ⟨_, rfl, by rw [Int.toNat_natCast, Int.toNat_natCast]; exact OwnL.mono (unhide HO) (by omega), grown_trans (unhide HG0) (unhide HGr)⟩

end Go.Proofs.Ytoeehfjbnbbijaa
