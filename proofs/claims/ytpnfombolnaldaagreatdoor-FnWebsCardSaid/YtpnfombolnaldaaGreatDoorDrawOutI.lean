/-
  No statement is proved here: what DrawOut answers in the program; condition: at most 1048576 stripes.
-/
import Derived.Test.YtpnfombolnaldaaGreatDoorDrawn
namespace Go.Proofs.YtpnfombolnaldaaGreatDoor
open Go.ChangeShapes Go.WideShapes Go.ChangeAt Go.RowKit


/-- What DrawOut answers. -/
def drawF (zs : List Int) (s : Int) : List Int × Int := if inB (zs.length : Int) 1 6 && (decide (s = 2 * (zs.length : Int)) && upTo zs 20000) then (outD zs, 0) else ([], 2)
theorem drawF_len (zs : List Int) (s : Int) : (drawF zs s).1.length ≤ 2097152 := by
  unfold drawF
  split
  · rename_i h
    simp only [Bool.and_eq_true] at h
    have := inB_of h.1
    show (outD zs).length ≤ 2097152
    rw [outD_length]
    omega
  · simp

set_option maxRecDepth 100000 in
set_option maxHeartbeats 1000000 in
theorem implDraw_any (v : Value) (zs : List Int) (s : Int) (w : World) (h : Ints w v zs) (hn : zs.length ≤ 1048576) :
    Calls Tryz.prog 24 #[v, .int .i64 s] w fun e w' => ∃ r, e = .returned (.tuple #[r, .int .i64 (drawF zs s).2]) ∧ Own w' w.heap.size r (drawF zs s).1 ∧ Below w.heap.size w w' := by
  obtain ⟨a1, c1, rfl⟩ := h.len
  have HU := Lib.hid (areUp_any _ zs 20000 w h hn)
  have HO := Lib.hid fun (hp : 0 < zs.length) (hu : upTo zs 20000 = true) => drawnOut_any _ zs w h hn hp hu
  by_cases h1 : zs.length < 1
  · have hF : drawF zs s = ([], 2) := by
      unfold drawF
      rw [inB_mkno (by omega)]
      rfl
    rw [hF]
    clear hF HU HO h
    go_enter Tryz.func24, Tryz.ntmps24
    go_wp2_with fail
    go_returns
    exact ⟨_, rfl, World.ownsRow_nil _ _ _ _, Below.refl _ _⟩
  · by_cases h6 : 6 < zs.length
    · have hF : drawF zs s = ([], 2) := by
        unfold drawF
        rw [inB_mkno (by omega)]
        rfl
      rw [hF]
      clear hF HU HO h
      go_enter Tryz.func24, Tryz.ntmps24
      go_wp2_with fail
      go_returns
      exact ⟨_, rfl, World.ownsRow_nil _ _ _ _, Below.refl _ _⟩
    · have hI : inB (zs.length : Int) 1 6 = true := inB_mk (by omega)
      cases hu : upTo zs 20000 with
      | false =>
        have hF : drawF zs s = ([], 2) := by simp [drawF, hu]
        rw [hF]
        have hU2 := HU.out
        rw [hu] at hU2
        have HU2 := Lib.hid hU2
        clear hF HU HO h hI hu hU2
        go_enter Tryz.func24, Tryz.ntmps24
        go_wp2_with fail
        refine HU2.out.mono ?_
        rintro e w' ⟨rfl, rfl⟩
        go_wp2_with fail
        go_returns
        exact ⟨_, rfl, World.ownsRow_nil _ _ _ _, Below.refl _ _⟩
      | true =>
        have hU2 := HU.out
        rw [hu] at hU2
        have HU2 := Lib.hid hU2
        have HO2 := Lib.hid (HO.out (by omega) hu)
        by_cases hs : s = 2 * (zs.length : Int)
        · have hF : drawF zs s = (outD zs, 0) := by simp [drawF, hu, hI, hs]
          rw [hF]
          clear hF HU HO h hI hu hU2
          have hsb : (s != 2 * (zs.length : Int)) = false := by simp [hs]
          go_enter Tryz.func24, Tryz.ntmps24
          go_wp2_with fail
          refine HU2.out.mono ?_
          rintro e w' ⟨rfl, rfl⟩
          go_wp2_with fail
          refine HO2.out.mono ?_
          rintro e w' ⟨r, rfl, hown, hB⟩
          go_wp2_with fail
          go_returns
          exact ⟨_, rfl, hown, hB⟩
        · have hF : drawF zs s = ([], 2) := by simp [drawF, hs]
          rw [hF]
          clear hF HU HO h hI hu hU2 HO2
          have hsb : (s != 2 * (zs.length : Int)) = true := by simp [hs]
          go_enter Tryz.func24, Tryz.ntmps24
          go_wp2_with fail
          refine HU2.out.mono ?_
          rintro e w' ⟨rfl, rfl⟩
          go_wp2_with fail
          go_returns
          exact ⟨_, rfl, World.ownsRow_nil _ _ _ _, Below.refl _ _⟩
end Go.Proofs.YtpnfombolnaldaaGreatDoor
