/-
  No statement is proved here: a copy of a list in the document's own text; condition: at least one number, at most 1048576.
-/
import Derived.Test.YtpnfombolnaldaaGreatDoorClone
import Derived.Deep.QuietTactic
namespace Go.Proofs.YtpnfombolnaldaaGreatDoor
open Go.ChangeShapes Go.WideShapes Go.ChangeAt Go.RowKit


set_option maxRecDepth 100000 in
set_option maxHeartbeats 2000000 in
theorem own_any (v : Value) (zs : List Int) (w : World) (h : Ints w v zs) (hn : zs.length ≤ 1048576) (hp : 0 < zs.length) :
    Calls Tryz.prog 41 #[v] w fun e w' => ∃ r, e = .returned r ∧ Own w' w.heap.size r zs ∧ Below w.heap.size w w' := by
  obtain ⟨i0, hi, hz0, hz1, hz2⟩ := info_parts info64
  have hbw0 := h.blk hp
  obtain ⟨b1, o1, c1, rfl, hc1⟩ := h.pos hp
  have hbw : b1 < w.heap.size := hbw0 b1 o1 none _ _ rfl
  clear h hbw0
  have hc2 : ∀ j, j < zs.length → (w.alloc (.cells #[] 2)).cell? ⟨b1, o1 + j, none⟩ = some (.int .i64 (zs.getD j 0)) := fun j hj => (((Below.refl w.heap.size w).alloc (Nat.le_refl _) _).cell (p := ⟨b1, o1 + j, none⟩) hbw).trans (hc1 j hj)
  have N1 := Lib.hid (news_of rfl hc2)
  have O1 := Lib.hid (World.ownsRow_made (base := w.heap.size) (e := 2) (size := 1) w #[] 0 (Nat.le_refl _) (by decide) rfl)
  unfold Own
  have HM := Lib.hid (show (zs.map (Value.int .i64)).length = zs.length from List.length_map _)
  obtain ⟨n, hln⟩ : ∃ n, n = zs.length := ⟨_, rfl⟩
  rw [← hln] at hn hp HM ⊢
  clear hln hc1 hc2
  go_enter Tryz.func41, Tryz.ntmps41
  go_wp2_with (first
    | (at_builtin; refine wpList_append_lies _ rfl _ _ _ rfl w.heap.size 2 i0 (.int .i64 0) 1 8 Tryz.underlying24 hi hz0 hz1 hz2 rfl (by omega) _ 0 [] rfl O1.out ⟨b1, o1, none⟩ n c1 (zs.map (Value.int .i64)) rfl (by rw [HM.out, Nat.mul_one]) N1.out (ints_oneCell _ _) (by omega) (by unfold maxLen; omega) (by omega) (by simp) (w.heap.size + 1) (by simp) ?_; intro gg cap w1 hown1 hgrow hat hlt2)
    | go_in)
  go_returns
  have hrow := grown_alloc hgrow
  refine ⟨_, rfl, ?_, (Below.refl _ _).grown hrow (Nat.le_refl _) (fun k hk => ?_)⟩
  · simpa using hown1
  · exact Nat.le_of_eq (Option.some.inj hk)
end Go.Proofs.YtpnfombolnaldaaGreatDoor
