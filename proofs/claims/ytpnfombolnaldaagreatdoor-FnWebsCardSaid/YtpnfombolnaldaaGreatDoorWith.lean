/-
  No statement is proved here: one list of stripes laid on another, as the program does it; condition: as many in both, at least one, numbers from 0 to 10000.
-/
import Derived.Test.YtpnfombolnaldaaGreatDoorMirror
namespace Go.Proofs.YtpnfombolnaldaaGreatDoor
open Go.ChangeShapes Go.WideShapes Go.ChangeAt Go.RowKit

/-- The first k numbers of ys laid on those of xs. -/
def onTo (xs ys : List Int) (k : Nat) : List Int := (List.range xs.length).map fun j => if j < k then xs.getD j 0 + ys.getD j 0 else xs.getD j 0
theorem onTo_length (xs ys : List Int) (k : Nat) : (onTo xs ys k).length = xs.length := by simp [onTo]
theorem onTo_get (xs ys : List Int) (k j : Nat) (hj : j < xs.length) : (onTo xs ys k).getD j 0 = if j < k then xs.getD j 0 + ys.getD j 0 else xs.getD j 0 := by
  simp [onTo, List.getD, hj]
theorem onTo_zero (xs ys : List Int) : onTo xs ys 0 = xs := by
  refine ext_getD (onTo_length xs ys 0) fun j hj => ?_
  rw [onTo_length] at hj
  rw [onTo_get xs ys 0 j hj, if_neg (by omega)]
set_option linter.unusedVariables false in
theorem onTo_step (xs ys : List Int) (k : Nat) (hk : k < xs.length) : (onTo xs ys k).set k (xs.getD k 0 + ys.getD k 0) = onTo xs ys (k + 1) := by
  refine ext_getD (by simp [onTo_length]) fun j hj => ?_
  simp only [List.length_set, onTo_length] at hj
  rw [getD_set _ _ _ _ (by simpa [onTo_length] using hj), onTo_get xs ys k j hj, onTo_get xs ys (k + 1) j hj]
  by_cases h1 : k = j
  · subst h1
    rw [if_pos rfl, if_pos (by omega)]
  · rw [if_neg h1]
    by_cases h2 : j < k
    · rw [if_pos h2, if_pos (by omega)]
    · rw [if_neg h2, if_neg (by omega)]

set_option maxRecDepth 100000 in
set_option maxHeartbeats 2000000 in
theorem with_any (a b : Value) (xs ys : List Int) (w : World) (ha : Ints w a xs) (hb : Ints w b ys) (hl : ys.length = xs.length) (hn : xs.length ≤ 1048576) (hp : 0 < xs.length)
    (hx : ∀ j, j < xs.length → 0 ≤ xs.getD j 0 ∧ xs.getD j 0 ≤ 10000) (hy : ∀ j, j < xs.length → 0 ≤ ys.getD j 0 ∧ ys.getD j 0 ≤ 10000) :
    Calls Tryz.prog 80 #[a, b] w fun e w' => ∃ r, e = .returned r ∧ Own w' w.heap.size r (onTo xs ys xs.length) ∧ Below w.heap.size w w' := by
  have H1 := Lib.hid (clone_any a xs w ha hn hp)
  have hbw0 := hb.blk (by omega)
  obtain ⟨b1, o1, c1, rfl, hc1⟩ := hb.pos (by omega)
  have hbw : b1 < w.heap.size := hbw0 b1 o1 none _ _ rfl
  clear ha hb hbw0
  unfold Own
  rw [onTo_length]
  have U1 := Lib.hid (onTo_step xs ys)
  have U2 := Lib.hid (onTo_get xs ys)
  have U3 := Lib.hid (onTo_length xs ys)
  have U4 := Lib.hid (onTo_zero xs ys)
  have HX := Lib.hid hx
  have HY := Lib.hid hy
  rw [hl] at hc1 ⊢
  obtain ⟨n, hln⟩ : ∃ n, n = xs.length := ⟨_, rfl⟩
  have HL := Lib.hid hln
  rw [← hln] at U1 U2 U3 HX HY hc1 hn hp ⊢
  have HC := Lib.hid hc1
  clear hc1 hln hl hx hy
  obtain ⟨B, hBe⟩ : ∃ B, B = w.heap.size := ⟨_, rfl⟩
  have HB := Lib.hid hBe
  rw [← hBe] at hbw H1 ⊢
  clear hBe
  go_enter Tryz.func80, Tryz.ntmps80
  go_wp2_with fail
  refine H1.out.mono ?_
  rintro e w1 ⟨r, rfl, own, hB1⟩
  have own2 := own.row
  rcases own.block with ⟨hxe, _⟩ | ⟨g, cap, rfl, hbg, hg, hob, hcc, hff⟩
  · exfalso
    have := HL.out
    rw [hxe] at this
    simp at this
    omega
  rw [← U4.out, U3.out] at own2
  rw [← HL.out] at *
  have S0 := Lib.hid own2
  have S1 := Lib.hid hB1
  clear own own2 hB1 hg hob hcc hff
  clear HL
  go_wp2_with fail
  go_loopw [12] (fun i wr => ∃ k : Nat, k ≤ n ∧ i = .int .i64 k ∧ Hid (wr.ownsRow B 2 1 (.slice (some ⟨g, 0, none⟩) n cap) n ((onTo xs ys k).map (Value.int .i64))) ∧ Hid (Below B w wr)) (fun i _ => n - (intOf i).toNat)
  case atStart => exact ⟨0, Nat.zero_le _, rfl, S0, S1⟩
  case round =>
    clear S0 S1
    obtain ⟨k, hk, rfl, hO, hE⟩ := hrel
    by_cases hlt : k < n
    · have c1 : wr.cell? ⟨b1, o1 + k, none⟩ = some (.int .i64 (ys.getD k 0)) := (hE.out.cell (p := ⟨b1, o1 + k, none⟩) hbw).trans (HC.out k hlt)
      have c2 : wr.cell? ⟨g, k, none⟩ = some (.int .i64 ((onTo xs ys k).getD k 0)) := (hO.out.cellAt k (by omega)).trans (cellOf (by rw [U3.out]; exact hlt))
      have f2 : wr.frozen? ⟨g, k, none⟩ = false := hO.out.frozenAt k
      rw [U2.out k k hlt, if_neg (by omega)] at c2
      have u1 := U1.out k hlt
      have hx := HX.out k hlt
      have hy := HY.out k hlt
      obtain ⟨x, hxe⟩ : ∃ x, x = xs.getD k 0 := ⟨_, rfl⟩
      obtain ⟨y, hye⟩ : ∃ y, y = ys.getD k 0 := ⟨_, rfl⟩
      rw [← hxe] at c2 u1 hx
      rw [← hye] at c1 u1 hy
      have HU := Lib.hid u1
      clear u1 hxe hye
      go_wp2_with fail
      have h1 := (hO.out.stored k (Value.int .i64 (x + y))).1
      rw [← List.map_set, HU.out] at h1
      go_roundw
      case rel => exact ⟨k + 1, by omega, by go_num, Lib.hid h1, Lib.hid (hE.out.setCell (p := ⟨g, k, none⟩) hbg _)⟩
      case measure => simp [intOf]; omega
    · have hkn : k = n := by omega
      subst hkn
      go_wp2_with fail
      go_ret
      exact ⟨_, rfl, hO.out, hE.out⟩
end Go.Proofs.YtpnfombolnaldaaGreatDoor
