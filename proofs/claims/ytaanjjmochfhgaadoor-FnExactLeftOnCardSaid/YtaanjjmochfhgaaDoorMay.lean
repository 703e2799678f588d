/-
  No statement is proved here: whether two strands may be on one reel, as the document's own text tells it; condition: the numbers are within their kinds.
-/
import Derived.Test.YtaanjjmochfhgaaDoorMeets
import Derived.Test.YtaanjjmochfhgaaDoorSnOk
namespace Go.Proofs.YtaanjjmochfhgaaDoor
open Go.ChangeShapes Go.WideShapes Go.ChangeAt Go.RowKit

/-- Two strands may be on one reel. -/
def mayB (m : Nat → Int) (a b : Nat) : Bool := hasB (m a) b

set_option maxRecDepth 100000 in
set_option maxHeartbeats 2000000 in
theorem l04May_any (m : Nat → Int) (b : Nat) (x y : Int) (da db : Nat) (w : World) (hM : MAt w b m) (h8 : Bytes6 m) (ha : da < 6) (hb : db < 6) :
    Calls Tryd.prog 43 #[.pointer (some ⟨b, 0, none⟩), .agg #[.int .i16 x, .int .u8 da], .agg #[.int .i16 y, .int .u8 db]] w fun e w' => e = .returned (.bool (mayB m da db)) ∧ Below w.heap.size w w' := by
  have hlt := World.block_lt_of_cell? w _ (hM da ha)
  have c1 : ((w.alloc (.cells #[.int .i16 x, .int .u8 da] 51)).alloc (.cells #[.int .i16 y, .int .u8 db] 51)).cell? ⟨b, da, none⟩ = some (.int .u8 (m da)) :=
    (World.cell?_alloc_lt _ _ ⟨b, da, none⟩ (by simp only [World.size_alloc]; simp only at hlt; omega)).trans ((World.cell?_alloc_lt w _ ⟨b, da, none⟩ hlt).trans (hM da ha))
  have x0 := h8 da
  have hd6 : (da : Int) < 6 := by omega
  have hm8 : min db 8 = db := by omega
  have e1 : (m da / 2 ^ db).tmod 2 = bitv (m da) db := Int.tmod_eq_emod_of_nonneg (shr_bd x0 db).1
  have hr : mayB m da db = (bitv (m da) db == 1) := rfl
  rw [hr]
  clear hr hM hlt
  generalize bitv (m da) db = r at *
  generalize m da = z at *
  go_enter Tryd.func43, Tryd.ntmps43
  go_wp2_with fail
  go_quiet (fail)
  go_wp2
  go_ret
  exact ⟨rfl, (((Below.refl w.heap.size w).alloc (Nat.le_refl _) _).alloc (by simp) _).trans ((bdN _ _).mono (by simp only [World.size_alloc]; omega))⟩

/-- A list of two strands that the call makes. -/
theorem two_strands (w : World) (t : TypeId) (a1 b1 : Int) (da db : Nat) (ha : IsSt (a1, (da : Int))) (hb : IsSt (b1, (db : Int))) (cap : Nat) :
    Strands (w.alloc (.cells #[.int .i16 a1, .int .u8 da, .int .i16 b1, .int .u8 db] t)) (.slice (some ⟨w.heap.size, 0, none⟩) 2 cap) [(a1, (da : Int)), (b1, (db : Int))] := by
  refine ⟨fun j => ?_, .inr ⟨w.heap.size, 0, cap, rfl, by simp, by simp, fun j hj => ?_⟩⟩
  · match j with
    | 0 => exact ha
    | 1 => exact hb
    | n + 2 => simp [sat, IsSt]
  · match j, hj with
    | 0, _ => exact ⟨by simp [go_sem, sat], by simp [go_sem, sat]⟩
    | 1, _ => exact ⟨by simp [go_sem, sat], by simp [go_sem, sat]⟩
theorem allS_two (a b : Sn) : allS [a, b] = (okS a && okS b) := by simp [allS]

/-- What MayWind answers. -/
def mayF (m : Nat → Int) (a1 b1 : Int) (da db : Nat) : Bool × Int := if (meetsB m && (okS (a1, (da : Int)) && okS (b1, (db : Int)))) = true then (mayB m da db, 0) else (false, 1)
theorem mayF_yes {m : Nat → Int} {a1 b1 : Int} {da db : Nat} (h1 : meetsB m = true) (h2 : (okS (a1, (da : Int)) && okS (b1, (db : Int))) = true) : mayF m a1 b1 da db = (mayB m da db, 0) := if_pos (by rw [h1, h2]; rfl)
theorem mayF_no1 {m : Nat → Int} {a1 b1 : Int} {da db : Nat} (h1 : meetsB m = false) : mayF m a1 b1 da db = (false, 1) := if_neg (by rw [h1]; simp)
theorem mayF_no2 {m : Nat → Int} {a1 b1 : Int} {da db : Nat} (h2 : (okS (a1, (da : Int)) && okS (b1, (db : Int))) = false) : mayF m a1 b1 da db = (false, 1) := if_neg (by rw [h2]; simp)

theorem ret_may {a b : Bool} {c d : Int} (h : a = b) (h' : c = d) : Ending.returned (.tuple #[.bool a, .int .i64 c]) = .returned (.tuple #[.bool b, .int .i64 d]) := by rw [h, h']
end Go.Proofs.YtaanjjmochfhgaaDoor
