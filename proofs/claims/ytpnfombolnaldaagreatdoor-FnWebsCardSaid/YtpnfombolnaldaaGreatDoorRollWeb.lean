/-
  No statement is proved here: what RollWeb answers, in the program and in the document's own text; condition: at most 1048576 stripes.
-/
import Derived.Test.YtpnfombolnaldaaGreatDoorRoll
namespace Go.Proofs.YtpnfombolnaldaaGreatDoor
open Go.ChangeShapes Go.WideShapes Go.ChangeAt Go.RowKit

/-- What RollWeb answers. -/
def rolF (zs : List Int) (b : Int) : List Int × Int := if okW zs = true then (rollL zs (rollP b zs.length), 0) else ([], 1)
theorem rolF_yes {zs : List Int} {b : Int} (h : okW zs = true) : rolF zs b = (rollL zs (rollP b zs.length), 0) := if_pos h
theorem rolF_no {zs : List Int} {b : Int} (h : okW zs = false) : rolF zs b = ([], 1) := if_neg (by rw [h]; simp)
theorem rolF_len (zs : List Int) (b : Int) : (rolF zs b).1.length ≤ 2097152 := by
  cases h : okW zs with
  | false => rw [rolF_no h]; simp
  | true =>
    rw [rolF_yes h]
    have := okW_len h
    show (rollL zs (rollP b zs.length)).length ≤ _
    rw [rollL_length]
    omega

set_option maxRecDepth 100000 in
set_option maxHeartbeats 1000000 in
theorem specRoll_any (v : Value) (zs : List Int) (b : Int) (w : World) (h : Ints w v zs) (hn : zs.length ≤ 1048576) (hb : IntKind.i64.has b) :
    Calls Tryz.prog 14 #[v, .int .i64 b] w fun e w' => ∃ r, e = .returned (.tuple #[r, .int .i64 (rolF zs b).2]) ∧ Own w' w.heap.size r (rolF zs b).1 ∧ Below w.heap.size w w' := by
  have hin := l02Ok_any v zs w h hn
  cases hok : okW zs with
  | false =>
    rw [hok] at hin
    have HI := Lib.hid hin
    rw [rolF_no hok]
    clear hin hok h
    go_enter Tryz.func14, Tryz.ntmps14
    go_wp2_with fail
    refine HI.out.mono ?_
    rintro e w' ⟨rfl, rfl⟩
    go_wp2_with fail
    go_returns
    exact ⟨_, rfl, World.ownsRow_made w #[] 0 (Nat.le_refl _) (by decide) rfl, (Below.refl _ _).alloc (Nat.le_refl _) _⟩
  | true =>
    rw [hok] at hin
    have HI := Lib.hid hin
    have HD := Lib.hid (l02Roll_any v zs b w h hok hb)
    rw [rolF_yes hok]
    clear hin hok h
    go_enter Tryz.func14, Tryz.ntmps14
    go_wp2_with fail
    refine HI.out.mono ?_
    rintro e w' ⟨rfl, rfl⟩
    go_wp2_with fail
    refine HD.out.mono ?_
    rintro e w' ⟨r, rfl, own, hB⟩
    go_wp2_with fail
    go_returns
    exact ⟨_, rfl, own, hB⟩

set_option maxRecDepth 100000 in
set_option maxHeartbeats 1000000 in
theorem implRoll_any (v : Value) (zs : List Int) (b : Int) (base : Nat) (w : World) (ho : Own w base v zs) (hn : zs.length ≤ 1048576) (hb : IntKind.i64.has b) :
    Calls Tryz.prog 13 #[v, .int .i64 b] w fun e w' => ∃ r, e = .returned (.tuple #[r, .int .i64 (rolF zs b).2]) ∧ Own w' w.heap.size r (rolF zs b).1 ∧ Below w.heap.size w w' := by
  have hin := valid_any v zs w ho.ints hn
  cases hok : okW zs with
  | false =>
    rw [hok] at hin
    have HI := Lib.hid hin
    rw [rolF_no hok]
    clear hin hok ho
    go_enter Tryz.func13, Tryz.ntmps13
    go_wp2_with fail
    refine HI.out.mono ?_
    rintro e w' ⟨rfl, rfl⟩
    go_wp2_with fail
    go_returns
    exact ⟨_, rfl, World.ownsRow_nil _ _ _ _, Below.refl _ _⟩
  | true =>
    rw [hok] at hin
    have HI := Lib.hid hin
    have HF := Lib.hid (rolled_any v zs b base w ho hok hb)
    rw [rolF_yes hok]
    clear hin hok ho
    go_enter Tryz.func13, Tryz.ntmps13
    go_wp2_with fail
    refine HI.out.mono ?_
    rintro e w' ⟨rfl, rfl⟩
    go_wp2_with fail
    refine HF.out.mono ?_
    rintro e w1 ⟨r, rfl, own, hB⟩
    go_wp2_with fail
    go_returns
    exact ⟨_, rfl, own, hB⟩
end Go.Proofs.YtpnfombolnaldaaGreatDoor
