/-
  Colours told by brightness, and got back.
-/
import Derived.Test.YtgknninkfdgebaaKit
namespace Go.Proofs.Ytgknninkfdgebaa
open Go.RowKit

def rndI (n d : Int) : Int := (2 * n + d) / (2 * d)
def clipI (n hi : Int) : Int := min (max n 0) hi
def yOf (r g b : Int) : Int := rndI (77 * r + 150 * g + 29 * b) 256
def uOf (half b y : Int) : Int := half + rndI (144 * (b - y)) 256
def vOf (half r y : Int) : Int := half + rndI (183 * (r - y)) 256
def rOf (most half y v : Int) : Int := clipI (y + rndI (359 * (v - half)) 256) most
def bOf (most half y u : Int) : Int := clipI (y + rndI (454 * (u - half)) 256) most
def gOf (most y r b : Int) : Int := clipI (rndI (256 * y - 77 * r - 29 * b) 150) most
def toL (most half r g b : Int) : List Int := [clipI (yOf r g b) most, clipI (uOf half b (yOf r g b)) most, clipI (vOf half r (yOf r g b)) most]
def fromL (most half y u v : Int) : List Int := [rOf most half y v, gOf most y (rOf most half y v) (bOf most half y u), bOf most half y u]
def mostI (prec : Int) : Int := if prec = 8 then 255 else 4095
def halfI (prec : Int) : Int := if prec = 8 then 128 else 2048
def pxB (prec : Int) (zs : List Int) : Bool := (decide (prec = 8) || decide (prec = 12)) && (decide (zs.length = 3) && zs.all fun x => decide (0 ≤ x ∧ x ≤ mostI prec))
def toYG (prec : Int) (zs : List Int) : List Int := if pxB prec zs then toL (mostI prec) (halfI prec) (zs.getD 0 0) (zs.getD 1 0) (zs.getD 2 0) else []
def fromYG (prec : Int) (zs : List Int) : List Int := if pxB prec zs then fromL (mostI prec) (halfI prec) (zs.getD 0 0) (zs.getD 1 0) (zs.getD 2 0) else []

theorem rnd_in (n d : Int) (hd : 0 < d) : -d ≤ 2 * (d * rndI n d - n) ∧ 2 * (d * rndI n d - n) ≤ d := by
  have h1 := Int.ediv_mul_le (2 * n + d) (b := 2 * d) (by omega)
  have h2 := Int.lt_ediv_add_one_mul_self (2 * n + d) (b := 2 * d) (by omega)
  unfold rndI
  generalize (2 * n + d) / (2 * d) = q at *
  have e1 : q * (2 * d) = 2 * (d * q) := by rw [Int.mul_comm q, Int.mul_assoc]
  have e2 : (q + 1) * (2 * d) = 2 * (d * q) + 2 * d := by rw [Int.add_mul, e1]; omega
  rw [e1] at h1
  rw [e2] at h2
  omega
theorem clip_in (n hi : Int) (h : 0 ≤ hi) : 0 ≤ clipI n hi ∧ clipI n hi ≤ hi := by unfold clipI; omega
theorem clip_id {n hi : Int} (h : 0 ≤ n ∧ n ≤ hi) : clipI n hi = n := by unfold clipI; omega
theorem clip_near {n hi x k : Int} (hx : 0 ≤ x ∧ x ≤ hi) (h : -k ≤ n - x ∧ n - x ≤ k) : -k ≤ clipI n hi - x ∧ clipI n hi - x ≤ k := by unfold clipI; omega

theorem y_in {m r g b : Int} (hr : 0 ≤ r ∧ r ≤ m) (hg : 0 ≤ g ∧ g ≤ m) (hb : 0 ≤ b ∧ b ≤ m) : 0 ≤ yOf r g b ∧ yOf r g b ≤ m := by
  have h := rnd_in (77 * r + 150 * g + 29 * b) 256 (by omega)
  unfold yOf
  omega

theorem r_back {r g b : Int} (hr : 0 ≤ r ∧ r ≤ 255) (hg : 0 ≤ g ∧ g ≤ 255) (hb : 0 ≤ b ∧ b ≤ 255) :
    -1 ≤ rOf 255 128 (yOf r g b) (clipI (vOf 128 r (yOf r g b)) 255) - r ∧ rOf 255 128 (yOf r g b) (clipI (vOf 128 r (yOf r g b)) 255) - r ≤ 1 := by
  have hy := y_in hr hg hb
  have h0 : -256 ≤ 2 * (256 * yOf r g b - (77 * r + 150 * g + 29 * b)) ∧ 2 * (256 * yOf r g b - (77 * r + 150 * g + 29 * b)) ≤ 256 := rnd_in _ 256 (by omega)
  generalize yOf r g b = y at *
  have h1 := rnd_in (183 * (r - y)) 256 (by omega)
  have hv : clipI (vOf 128 r y) 255 = 128 + rndI (183 * (r - y)) 256 := clip_id (by unfold vOf; omega)
  rw [hv]
  unfold rOf
  refine clip_near hr ?_
  have e : 128 + rndI (183 * (r - y)) 256 - 128 = rndI (183 * (r - y)) 256 := by omega
  rw [e]
  generalize rndI (183 * (r - y)) 256 = k at *
  have h2 := rnd_in (359 * k) 256 (by omega)
  omega

theorem b_back {r g b : Int} (hr : 0 ≤ r ∧ r ≤ 255) (hg : 0 ≤ g ∧ g ≤ 255) (hb : 0 ≤ b ∧ b ≤ 255) :
    -1 ≤ bOf 255 128 (yOf r g b) (clipI (uOf 128 b (yOf r g b)) 255) - b ∧ bOf 255 128 (yOf r g b) (clipI (uOf 128 b (yOf r g b)) 255) - b ≤ 1 := by
  have hy := y_in hr hg hb
  have h0 : -256 ≤ 2 * (256 * yOf r g b - (77 * r + 150 * g + 29 * b)) ∧ 2 * (256 * yOf r g b - (77 * r + 150 * g + 29 * b)) ≤ 256 := rnd_in _ 256 (by omega)
  generalize yOf r g b = y at *
  have h1 := rnd_in (144 * (b - y)) 256 (by omega)
  have hv : clipI (uOf 128 b y) 255 = 128 + rndI (144 * (b - y)) 256 := clip_id (by unfold uOf; omega)
  rw [hv]
  unfold bOf
  refine clip_near hb ?_
  have e : 128 + rndI (144 * (b - y)) 256 - 128 = rndI (144 * (b - y)) 256 := by omega
  rw [e]
  generalize rndI (144 * (b - y)) 256 = k at *
  have h2 := rnd_in (454 * k) 256 (by omega)
  omega

theorem g_back {r g b r' b' : Int} (hg : 0 ≤ g ∧ g ≤ 255) (h1 : -1 ≤ r' - r ∧ r' - r ≤ 1) (h2 : -1 ≤ b' - b ∧ b' - b ≤ 1) :
    -2 ≤ gOf 255 (yOf r g b) r' b' - g ∧ gOf 255 (yOf r g b) r' b' - g ≤ 2 := by
  have h0 : -256 ≤ 2 * (256 * yOf r g b - (77 * r + 150 * g + 29 * b)) ∧ 2 * (256 * yOf r g b - (77 * r + 150 * g + 29 * b)) ≤ 256 := rnd_in _ 256 (by omega)
  generalize yOf r g b = y at *
  unfold gOf
  refine clip_near hg ?_
  have h3 := rnd_in (256 * y - 77 * r' - 29 * b') 150 (by omega)
  omega

theorem to_in {m h r g b : Int} (hm : 0 ≤ m) : ∀ x ∈ toL m h r g b, 0 ≤ x ∧ x ≤ m := by
  intro x hx
  simp only [toL, List.mem_cons, List.not_mem_nil, or_false] at hx
  rcases hx with rfl | rfl | rfl <;> exact clip_in _ _ hm

theorem colour_back {r g b : Int} (hr : 0 ≤ r ∧ r ≤ 255) (hg : 0 ≤ g ∧ g ≤ 255) (hb : 0 ≤ b ∧ b ≤ 255) :
    ∃ r' g' b', (let t := toL 255 128 r g b; fromL 255 128 (t.getD 0 0) (t.getD 1 0) (t.getD 2 0)) = [r', g', b'] ∧ (-4 ≤ r' - r ∧ r' - r ≤ 4) ∧ (-4 ≤ g' - g ∧ g' - g ≤ 4) ∧ (-4 ≤ b' - b ∧ b' - b ≤ 4) := by
  have h1 := r_back hr hg hb
  have h2 := b_back hr hg hb
  have h3 := g_back (r := r) (b := b) hg h1 h2
  have hy := clip_id (y_in hr hg hb)
  refine ⟨_, _, _, rfl, ?_, ?_, ?_⟩
  · show -4 ≤ rOf 255 128 (clipI (yOf r g b) 255) (clipI (vOf 128 r (yOf r g b)) 255) - r ∧ rOf 255 128 (clipI (yOf r g b) 255) (clipI (vOf 128 r (yOf r g b)) 255) - r ≤ 4
    rw [hy]; omega
  · show -4 ≤ gOf 255 (clipI (yOf r g b) 255) (rOf 255 128 (clipI (yOf r g b) 255) (clipI (vOf 128 r (yOf r g b)) 255)) (bOf 255 128 (clipI (yOf r g b) 255) (clipI (uOf 128 b (yOf r g b)) 255)) - g ∧ gOf 255 (clipI (yOf r g b) 255) (rOf 255 128 (clipI (yOf r g b) 255) (clipI (vOf 128 r (yOf r g b)) 255)) (bOf 255 128 (clipI (yOf r g b) 255) (clipI (uOf 128 b (yOf r g b)) 255)) - g ≤ 4
    rw [hy]; omega
  · show -4 ≤ bOf 255 128 (clipI (yOf r g b) 255) (clipI (uOf 128 b (yOf r g b)) 255) - b ∧ bOf 255 128 (clipI (yOf r g b) 255) (clipI (uOf 128 b (yOf r g b)) 255) - b ≤ 4
    rw [hy]; omega

theorem grey_to {m h p : Int} (hp : 0 ≤ p ∧ p ≤ m) (hh : 0 ≤ h ∧ h ≤ m) : toL m h p p p = [p, h, h] := by
  have e1 : yOf p p p = p := by unfold yOf rndI; omega
  have e2 : uOf h p p = h := by unfold uOf rndI; omega
  have e3 : vOf h p p = h := by unfold vOf rndI; omega
  unfold toL
  rw [e1, e2, e3, clip_id hp, clip_id hh]
theorem grey_from {m h p : Int} (hp : 0 ≤ p ∧ p ≤ m) : fromL m h p h h = [p, p, p] := by
  have e1 : rOf m h p h = p := by
    unfold rOf rndI
    rw [show p + (2 * (359 * (h - h)) + 256) / (2 * 256) = p by omega]
    exact clip_id hp
  have e2 : bOf m h p h = p := by
    unfold bOf rndI
    rw [show p + (2 * (454 * (h - h)) + 256) / (2 * 256) = p by omega]
    exact clip_id hp
  unfold fromL
  rw [e1, e2]
  have e3 : gOf m p p p = p := by
    unfold gOf rndI
    rw [show (2 * (256 * p - 77 * p - 29 * p) + 150) / (2 * 150) = p by omega]
    exact clip_id hp
  rw [e3]

end Go.Proofs.Ytgknninkfdgebaa
