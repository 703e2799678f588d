/-
  No statement is proved here: the marks that the law lays into a slice of progs of its own; condition: at most 1048576 progs.
-/
import Derived.Test.YtlmdojofjdfeeaaDoorPgS
import Derived.Test.YtlmdojofjdfeeaaDoorIntsMark
namespace Go.Proofs.YtlmdojofjdfeeaaDoor
open Go.ChangeShapes Go.WideShapes Go.ChangeAt Go.RowKit

set_option maxRecDepth 100000 in
set_option maxHeartbeats 2000000 in
theorem markP_any (v : Value) (ys : List Pg) (base : Nat) (w : World) (k : Int) (h : OwnP w base v ys) (hn : ys.length ≤ 1048576) (hk : 0 ≤ k) (hk' : k ≤ 1000) :
    Calls Tryd.prog 32 #[v, .int .i64 k] w fun e w' => e = .returned (.int .i64 (k + 3 * (ys.length : Int))) ∧ w.grownBy w' v.ownBlock := by
  have hrow := h.row
  obtain ⟨n, hln⟩ : ∃ n, n = ys.length := ⟨_, rfl⟩
  rw [← hln] at hrow hn ⊢
  generalize cellsP ys = cs0 at *
  clear h hln
  rcases hrow.2 with ⟨rfl, rfl⟩ | ⟨g, cap, cur, rfl, _, hg, _⟩
  · clear hrow
    go_enter Tryd.func32, Tryd.ntmps32
    go_wp2
    go_rounds 1
    go_ret
    exact ⟨by simp, World.grownBy.refl _ _⟩
  · clear hg
    have HW := Lib.hid hrow
    clear hrow
    go_enter Tryd.func32, Tryd.ntmps32
    go_wp2
    go_loopw [1, 5] (fun kk i wr => ∃ (j : Nat) (cs : List Value), j ≤ n ∧ i = .int .i64 j ∧ kk = .int .i64 (k + 3 * (j : Int)) ∧ Hid (wr.ownsRow base 33 3 (.slice (some ⟨g, 0, none⟩) n cap) n cs) ∧ Hid (w.grownBy wr (some g))) (fun _ i _ => n - (intOf i).toNat)
    case atStart => exact ⟨0, cs0, Nat.zero_le _, rfl, by go_num, HW, World.grownBy.refl _ _⟩
    case round =>
      obtain ⟨j, cs, hj, rfl, rfl, hO, hG⟩ := hrel
      by_cases hlt : j < n
      · have hln : cs.length = n * 3 := hO.out.1
        have g0 : cs[j * 3]? = some (cs[j * 3]'(by omega)) := List.getElem?_eq_getElem (by omega)
        have g1 : cs[j * 3 + 1]? = some (cs[j * 3 + 1]'(by omega)) := List.getElem?_eq_getElem (by omega)
        have g2 : cs[j * 3 + 2]? = some (cs[j * 3 + 2]'(by omega)) := List.getElem?_eq_getElem (by omega)
        generalize cs[j * 3]'(by omega) = y0 at *
        generalize cs[j * 3 + 1]'(by omega) = y1 at *
        generalize cs[j * 3 + 2]'(by omega) = y2 at *
        have c0 : wr.cell? ⟨g, j * 3, none⟩ = some y0 := (hO.out.cellAt _ (by omega)).trans g0
        have c1 : wr.cell? ⟨g, j * 3 + 1, none⟩ = some y1 := (hO.out.cellAt _ (by omega)).trans g1
        have c2 : wr.cell? ⟨g, j * 3 + 2, none⟩ = some y2 := (hO.out.cellAt _ (by omega)).trans g2
        have f0 : ∀ o : Nat, wr.frozen? ⟨g, o, none⟩ = false := fun o => hO.out.frozenAt o
        have HLT := Lib.hid hlt
        clear g0 g1 g2 hln
        have hjn : (j : Int) < (n : Int) := by omega
        go_wp2
        go_roundw
        case rel =>
          have s1 := hO.out.stored (j * 3) (Value.int .i8 (IntKind.i8.wrap (k + 3 * (j : Int))))
          have s2 := s1.1.stored (j * 3 + 1) (Value.int .i8 (IntKind.i8.wrap (k + 3 * (j : Int) + 1)))
          have s3 := s2.1.stored (j * 3 + 2) (Value.int .i8 (IntKind.i8.wrap (k + 3 * (j : Int) + 1 + 1)))
          exact ⟨j + 1, _, by omega, by go_num, by go_num, Lib.hid s3.1, Lib.hid (grown_trans (grown_trans (grown_trans hG.out s1.2) s2.2) s3.2)⟩
        case measure => simp [intOf]; omega
      · have hkn : j = n := by omega
        subst hkn
        go_wp2
        go_ret
        exact ⟨rfl, hG.out⟩
end Go.Proofs.YtlmdojofjdfeeaaDoor
