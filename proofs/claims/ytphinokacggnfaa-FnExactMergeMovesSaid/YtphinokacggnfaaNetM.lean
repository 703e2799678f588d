/-
  No statement is proved here: what moves bring to the five places, as numbers; no condition.
-/
import Derived.Test.YtphinokacggnfaaMvV
import Derived.Test.YtphinokacggnfaaPlaceL
namespace Go.Proofs.Ytphinokacggnfaa
open Go.ChangeShapes Go.WideShapes Go.ChangeAt Go.RowKit

/-- What a move brings. -/
def bringF (f : Nat → Int) (y : Mv) : Nat → Int := putP (putP f y.1.toNat (f y.1.toNat - y.2.2)) y.2.1.toNat (putP f y.1.toNat (f y.1.toNat - y.2.2) y.2.1.toNat + y.2.2)
def bringTo (f : Nat → Int) (ms : List Mv) : Nat → Nat → Int
  | 0 => f
  | k + 1 => bringF (bringTo f ms k) (atMv ms k)
def Within (f : Nat → Int) (b : Int) : Prop := ∀ j, -b ≤ f j ∧ f j ≤ b
theorem putP_in {f : Nat → Int} {b : Int} (h : Within f b) (a : Nat) {z : Int} (hz : -b ≤ z ∧ z ≤ b) : Within (putP f a z) b := fun j => by
  unfold putP
  split
  · exact hz
  · exact h j
theorem Within.mono {f : Nat → Int} {b c : Int} (h : Within f b) (hc : b ≤ c) : Within f c := fun j => by
  have := h j
  omega
theorem putP_ne {f : Nat → Int} {a b : Nat} (h : a ≠ b) (z : Int) : putP f a z b = f b := if_neg (fun e => h e.symm)
theorem bringF_eq {f : Nat → Int} {a b : Nat} {g : Int} (hab : a ≠ b) : bringF f ((a : Int), (b : Int), g) = putP (putP f a (f a - g)) b (f b + g) := by
  show putP (putP f (a : Int).toNat (f (a : Int).toNat - g)) (b : Int).toNat (putP f (a : Int).toNat (f (a : Int).toNat - g) (b : Int).toNat + g) = _
  rw [Int.toNat_natCast, Int.toNat_natCast, putP_ne hab]
theorem bringTo_in {f : Nat → Int} {ms : List Mv} {c : Int} (hc : 0 ≤ c) (hf : Within f c) (h : allMv ms = true) : ∀ k, k ≤ ms.length → Within (bringTo f ms k) (c + 5000 * (k : Int))
  | 0, _ => by simpa [bringTo] using hf
  | k + 1, hk => by
    have ih := bringTo_in hc hf h k (by omega)
    have hy := allMv_get h k (by omega)
    show Within (bringF (bringTo f ms k) (atMv ms k)) _
    generalize atMv ms k = y at hy
    obtain ⟨y0, y1, g⟩ := y
    obtain ⟨a, b, rfl, rfl, ha, hb0, hb, hab, hg0, hg⟩ := okMv_parts hy
    rw [bringF_eq hab]
    have i1 := ih a
    have i2 := ih b
    exact putP_in (putP_in (ih.mono (by omega)) a (by omega)) b (by omega)
theorem zeroP_in : Within (fun _ => 0) 0 := fun j => by simp
theorem Mvs.at {w : World} {a : Option Addr} {cap : Nat} {ys : List Mv} (h : Mvs w (.slice a ys.length cap) ys) (h0 : 0 < ys.length) : ∃ b off, a = some ⟨b, off, none⟩ ∧ b < w.heap.size ∧
    ∀ j, j < ys.length → w.cell? ⟨b, off + j * 3, none⟩ = some (.int .i8 (atMv ys j).1) ∧ w.cell? ⟨b, off + j * 3 + 1, none⟩ = some (.int .i8 (atMv ys j).2.1) ∧ w.cell? ⟨b, off + j * 3 + 2, none⟩ = some (.int .i16 (atMv ys j).2.2) := by
  obtain ⟨b, off, c, e, hb, hc⟩ := h.pos h0
  simp only [Value.slice.injEq, true_and] at e
  obtain ⟨rfl, rfl⟩ := e
  exact ⟨b, off, rfl, hb, hc⟩
/-- What NetMoves answers. -/
def netF (ms : List Mv) : (Nat → Int) × Int := if isMvs ms = true then (bringTo (fun _ => 0) ms ms.length, 0) else (fun _ => 0, 1)
theorem netF_yes {ms : List Mv} (h : isMvs ms = true) : netF ms = (bringTo (fun _ => 0) ms ms.length, 0) := if_pos h
theorem netF_no {ms : List Mv} (h : isMvs ms = false) : netF ms = (fun _ => 0, 1) := if_neg (by rw [h]; simp)
end Go.Proofs.Ytphinokacggnfaa
