/-
  No statement is proved here: what MirrorWeb answers, in the program and in the document's own text; condition: at most 1048576 stripes.
-/
import Derived.Test.YtpnfombolnaldaaGreatDoorClone
namespace Go.Proofs.YtpnfombolnaldaaGreatDoor
open Go.ChangeShapes Go.WideShapes Go.ChangeAt Go.RowKit

/-- What MirrorWeb answers. -/
def mirF (zs : List Int) : List Int × Int := if okW zs = true then (zs.reverse, 0) else ([], 1)
theorem mirF_yes {zs : List Int} (h : okW zs = true) : mirF zs = (zs.reverse, 0) := if_pos h
theorem mirF_no {zs : List Int} (h : okW zs = false) : mirF zs = ([], 1) := if_neg (by rw [h]; simp)
theorem mirF_len (zs : List Int) : (mirF zs).1.length ≤ 2097152 := by
  cases h : okW zs with
  | false => rw [mirF_no h]; simp
  | true =>
    rw [mirF_yes h]
    have := okW_len h
    simp
    omega
theorem mir_step (zs : List Int) (k : Nat) (hk : k < zs.length) : zs.reverse.take (k + 1) = zs.reverse.take k ++ [zs.getD (zs.length - 1 - k) 0] := by
  rw [take_step (by simpa using hk)]
  congr 2
  simp [List.getD, List.getElem?_reverse hk]
theorem mir_take (zs : List Int) (k : Nat) (hk : k ≤ zs.length) : (zs.reverse.take k).length = k := by rw [List.length_take, List.length_reverse]; omega
theorem mir_all (zs : List Int) : zs.reverse.take zs.length = zs.reverse := by rw [← List.length_reverse, List.take_length]

set_option maxRecDepth 100000 in
set_option maxHeartbeats 2000000 in
theorem mirrored_any (v : Value) (zs : List Int) (w : World) (h : Ints w v zs) (hn : zs.length ≤ 1048576) (hp : 0 < zs.length) :
    Calls Tryz.prog 47 #[v] w fun e w' => ∃ r, e = .returned r ∧ Own w' w.heap.size r zs.reverse ∧ Below w.heap.size w w' := by
  have H1 := Lib.hid (clone_any v zs w h hn hp)
  go_enter Tryz.func47, Tryz.ntmps47
  go_wp2_with fail
  refine H1.out.mono ?_
  rintro e w1 ⟨r, rfl, own, hB⟩
  go_wp2_with fail
  refine (reverse_any r zs _ w1 own hn hp).mono ?_
  rintro e w2 ⟨rfl, own2, hg⟩
  have hB2 := hB.trans (below_of_grown own hg (Nat.le_refl _) hB.size)
  clear own hg hB
  go_wp2_with fail
  go_ret
  exact ⟨_, rfl, own2, hB2⟩
end Go.Proofs.YtpnfombolnaldaaGreatDoor
