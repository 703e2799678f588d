/-
  No statement is proved here: what the laws over fabrics that answer lists ask of memory, and how such a law compares, marks and looks at lists; condition: at most 2097152 numbers.
-/
import Derived.Test.YtcdjabhdbobghaaDoorMarkT
import Derived.Test.YtcdjabhdbobghaaDoorIntsMark
import Derived.Deep.RegionHeld3
import Derived.Deep.AppendLies
namespace Go.Proofs.YtcdjabhdbobghaaDoor
open Go.ChangeShapes Go.WideShapes Go.ChangeAt Go.RowKit

theorem hb2_grown {w W W' : World} {b : Nat} {x y : Value} {row : Option Nat} (h : Hb2 w W b x y) (hg : W.grownBy W' row) (hr : ∀ k, row = some k → b < k ∧ w.heap.size ≤ k) : Hb2 w W' b x y := by
  have hne : some b ≠ row := fun e => by have := (hr b e.symm).1; omega
  exact ⟨(hg.cell_far ⟨b, 0, none⟩ h.2.2.2 hne).trans h.1, (hg.cell_far ⟨b, 1, none⟩ h.2.2.2 hne).trans h.2.1, h.2.2.1.grown hg h.2.2.1.size (fun k hk => (hr k hk).2), Nat.lt_of_lt_of_le h.2.2.2 hg.size⟩
theorem own_apart {v1 v2 : Value} (h : ∀ a b, v1.ownBlock = some a → v2.ownBlock = some b → a ≠ b) : v1.ownBlock = none ∨ v1.ownBlock ≠ v2.ownBlock := by
  cases e : v1.ownBlock with
  | none => exact .inl rfl
  | some a => exact .inr fun e2 => h a a e e2.symm rfl
theorem hb5_start {w W : World} {b d : Nat} {x y z u : Value} (h : Hb2 w W b x y) (k : Hb2 w W d z u) :
    W.drew.cell? ⟨b, 0, none⟩ = some x ∧ W.drew.cell? ⟨b, 1, none⟩ = some y ∧ W.drew.cell? ⟨d, 0, none⟩ = some z ∧ W.drew.cell? ⟨d, 1, none⟩ = some u ∧ Below w.heap.size w W.drew ∧ Below W.heap.size W W.drew ∧ b < W.drew.heap.size ∧ d < W.drew.heap.size :=
  ⟨h.1, h.2.1, k.1, k.2.1, h.2.2.1.drew, (Below.refl _ _).drew, h.2.2.2, k.2.2.2⟩
theorem hb5_next {w x W w' : World} {b d : Nat} {v y z u : Value} (h : W.cell? ⟨b, 0, none⟩ = some v ∧ W.cell? ⟨b, 1, none⟩ = some y ∧ W.cell? ⟨d, 0, none⟩ = some z ∧ W.cell? ⟨d, 1, none⟩ = some u ∧ Below w.heap.size w W ∧ Below x.heap.size x W ∧ b < W.heap.size ∧ d < W.heap.size) (hB : Below W.heap.size W w') :
    w'.cell? ⟨b, 0, none⟩ = some v ∧ w'.cell? ⟨b, 1, none⟩ = some y ∧ w'.cell? ⟨d, 0, none⟩ = some z ∧ w'.cell? ⟨d, 1, none⟩ = some u ∧ Below w.heap.size w w' ∧ Below x.heap.size x w' ∧ b < w'.heap.size ∧ d < w'.heap.size := by
  obtain ⟨h0, h1, h2, h3, h4, h7, h5, h6⟩ := h
  exact ⟨kept hB h5 h0, kept hB h5 h1, kept hB h6 h2, kept hB h6 h3, h4.trans (hB.mono h4.size), h7.trans (hB.mono h7.size), Nat.lt_of_lt_of_le h5 hB.size, Nat.lt_of_lt_of_le h6 hB.size⟩
theorem hb5_below {w x W : World} {b d : Nat} {v y z u : Value} (h : W.cell? ⟨b, 0, none⟩ = some v ∧ W.cell? ⟨b, 1, none⟩ = some y ∧ W.cell? ⟨d, 0, none⟩ = some z ∧ W.cell? ⟨d, 1, none⟩ = some u ∧ Below w.heap.size w W ∧ Below x.heap.size x W ∧ b < W.heap.size ∧ d < W.heap.size) : Below w.heap.size w W := h.2.2.2.2.1
theorem hb5_get {w x W : World} {b d : Nat} {v y z u : Value} (h : W.cell? ⟨b, 0, none⟩ = some v ∧ W.cell? ⟨b, 1, none⟩ = some y ∧ W.cell? ⟨d, 0, none⟩ = some z ∧ W.cell? ⟨d, 1, none⟩ = some u ∧ Below w.heap.size w W ∧ Below x.heap.size x W ∧ b < W.heap.size ∧ d < W.heap.size) : Hb2 w W b v y ∧ Hb2 w W d z u ∧ Below x.heap.size x W :=
  ⟨⟨h.1, h.2.1, h.2.2.2.2.1, h.2.2.2.2.2.2.1⟩, ⟨h.2.2.1, h.2.2.2.1, h.2.2.2.2.1, h.2.2.2.2.2.2.2⟩, h.2.2.2.2.2.1⟩

set_option maxRecDepth 100000 in
set_option maxHeartbeats 1000000 in
theorem eqInts_any (a b : Value) (xs ys : List Int) (w : World) (ha : Ints w a xs) (hb : Ints w b ys) (hn : xs.length ≤ 2097152) (hn' : ys.length ≤ 2097152) :
    Calls Tryd.prog 14 #[a, b] w fun e w' => e = .returned (.bool (decide (xs = ys))) ∧ Below w.heap.size w w' := by
  by_cases hl : xs.length = ys.length
  · by_cases h0 : xs.length = 0
    · have hx : xs = [] := List.length_eq_zero_iff.1 h0
      have hy : ys = [] := List.length_eq_zero_iff.1 (by omega)
      subst hx
      subst hy
      obtain ⟨a1, c1, rfl⟩ := ha.nil
      obtain ⟨a2, c2, rfl⟩ := hb.nil
      clear ha hb hl h0 hn hn'
      go_enter Tryd.func14, Tryd.ntmps14
      go_wp2
      go_rounds 1
      go_ret
      exact ⟨rfl, Below.refl _ _⟩
    · obtain ⟨b1, o1, c1, rfl, hc1⟩ := ha.pos (by omega)
      obtain ⟨b2, o2, c2, rfl, hc2⟩ := hb.pos (by omega)
      clear ha hb
      have HE := Lib.hid (@eq_of_all xs ys hl)
      rw [← hl] at hc2 hn' ⊢
      obtain ⟨r, hr⟩ : ∃ r, r = decide (xs = ys) := ⟨_, rfl⟩
      rw [← hr]
      have HR := Lib.hid hr
      clear hr
      obtain ⟨n, hln⟩ : ∃ n, n = xs.length := ⟨_, rfl⟩
      have HL := Lib.hid hln
      rw [← hln] at hc1 hc2 hn h0 HE ⊢
      clear hln hl hn' HL
      have H1 := Lib.hid hc1
      have H2 := Lib.hid hc2
      clear hc1 hc2
      go_enter Tryd.func14, Tryd.ntmps14
      go_wp2
      go_loopw [5] (fun i wr => ∃ k : Nat, k ≤ n ∧ i = .int .i64 k ∧ Hid (∀ j, j < k → xs.getD j 0 = ys.getD j 0) ∧ ∃ nd, wr = w.drewN nd) (fun i _ => n - (intOf i).toNat)
      case atStart => exact ⟨0, Nat.zero_le _, rfl, fun j hj => by omega, 0, rfl⟩
      case round =>
        obtain ⟨k, hk, rfl, hS, nd, rfl⟩ := hrel
        by_cases hlt : k < n
        · have c1 : w.cell? ⟨b1, o1 + k, none⟩ = some (.int .i64 (xs.getD k 0)) := H1.out k hlt
          have c2 : w.cell? ⟨b2, o2 + k, none⟩ = some (.int .i64 (ys.getD k 0)) := H2.out k hlt
          obtain ⟨xk, hxk⟩ : ∃ xk, xk = xs.getD k 0 := ⟨_, rfl⟩
          obtain ⟨yk, hyk⟩ : ∃ yk, yk = ys.getD k 0 := ⟨_, rfl⟩
          rw [← hxk] at c1
          rw [← hyk] at c2
          by_cases he : xk = yk
          · have hne : (xk != yk) = false := by simp [he]
            have HE2 := Lib.hid (hxk.symm.trans (he.trans hyk))
            clear hxk hyk he
            go_wp2
            go_region
            all_goals
              go_wp2
              go_roundw
              case rel =>
                refine ⟨k + 1, by omega, by go_num, fun j hj => ?_, nd + 1, rfl⟩
                by_cases hjk : j = k
                · subst hjk
                  exact HE2.out
                · exact hS.out j (by omega)
              case measure => simp [intOf]; omega
          · have hne : (xk != yk) = true := by rw [bne_iff_ne]; exact he
            have HE2 : Hid (r = false) := by
              rw [HR.out]
              refine decide_eq_false fun h => he ?_
              rw [hxk, hyk, h]
            clear hxk hyk
            go_wp2
            go_region
            all_goals
              go_wp2
              go_ret
              exact ⟨ret_bool HE2.out.symm, bdN _ _⟩
        · have hkn : k = n := by omega
          subst hkn
          have HE2 : Hid (r = true) := by
            rw [HR.out]
            exact decide_eq_true (HE.out hS.out)
          go_wp2
          go_ret
          exact ⟨ret_bool HE2.out.symm, bdN _ _⟩
  · obtain ⟨a1, c1, rfl⟩ := ha.len
    obtain ⟨a2, c2, rfl⟩ := hb.len
    have hne : decide (xs = ys) = false := decide_eq_false fun e => hl (by rw [e])
    rw [hne]
    clear ha hb hne
    have hbn : ((xs.length : Int) != (ys.length : Int)) = true := by rw [bne_iff_ne]; omega
    go_enter Tryd.func14, Tryd.ntmps14
    go_wp2
    go_ret
    exact ⟨rfl, Below.refl _ _⟩

set_option maxRecDepth 100000 in
set_option maxHeartbeats 1000000 in
theorem mark_any (v : Value) (zs : List Int) (base : Nat) (w : World) (k : Int) (h : Own w base v zs) (hn : zs.length ≤ 2097152) (hk : 0 ≤ k) (hk' : k ≤ 1000000000) :
    Calls Tryd.prog 16 #[v, .int .i64 k] w fun e w' => e = .returned (.int .i64 (k + zs.length)) ∧ Own w' base v (marks k zs.length) ∧ w.grownBy w' v.ownBlock := by
  rcases h.block with ⟨rfl, rfl⟩ | ⟨g, cap, rfl, hbg, hg, _, hc, hf⟩
  · go_enter Tryd.func16, Tryd.ntmps16
    go_wp2
    go_rounds 1
    go_ret
    exact ⟨by simp, World.ownsRow_nil _ _ _ _, World.grownBy.refl _ _⟩
  · clear hc hf
    obtain ⟨n, hln⟩ : ∃ n, n = zs.length := ⟨_, rfl⟩
    have HL := Lib.hid hln
    have hrow := h.row
    unfold Own
    rw [marks_length, ← hln]
    rw [← hln] at hn hrow
    clear hln h
    go_enter Tryd.func16, Tryd.ntmps16
    go_wp2
    have HFL := Lib.hid fun j (hj : j ≤ n) => markedTo_length k zs j (by rw [← HL.out]; exact hj)
    have HST := Lib.hid fun j (hj : j < n) => markedTo_step k zs j (by rw [← HL.out]; exact hj)
    have HW : Hid (w.ownsRow base 2 1 (.slice (some ⟨g, 0, none⟩) n cap) n ((markedTo k zs 0).map (Value.int .i64))) := by rw [markedTo_zero]; exact hrow
    clear hrow
    go_loopw [1, 5] (fun kk i wr => ∃ j : Nat, j ≤ n ∧ i = .int .i64 j ∧ kk = .int .i64 (k + j) ∧ Hid (wr.ownsRow base 2 1 (.slice (some ⟨g, 0, none⟩) n cap) n ((markedTo k zs j).map (Value.int .i64))) ∧ Hid (w.grownBy wr (some g))) (fun _ i _ => n - (intOf i).toNat)
    case atStart => exact ⟨0, Nat.zero_le _, rfl, by go_num, HW, World.grownBy.refl _ _⟩
    case round =>
      obtain ⟨j, hj, rfl, rfl, hO, hG⟩ := hrel
      have hcy : j < n → wr.cell? ⟨g, j, none⟩ = some (.int .i64 ((markedTo k zs j).getD j 0)) := fun h => (hO.out.cellAt j (by omega)).trans (cellOf (by rw [HFL.out j hj, ← HL.out]; exact h))
      have hfy : wr.frozen? ⟨g, j, none⟩ = false := hO.out.frozenAt j
      go_wp2
      · have hlt : j < n := by assumption
        go_roundw
        case rel =>
          have h := hO.out.stored j (Value.int .i64 (k + j))
          refine ⟨j + 1, by omega, by go_num, by go_num, ?_, Lib.hid (grown_trans hG.out h.2)⟩
          have h1 := h.1
          rw [← List.map_set, HST.out j hlt] at h1
          exact Lib.hid h1
        case measure => simp [intOf]; omega
      · have hkn : j = n := by omega
        subst hkn
        have e : markedTo k zs j = marks k j := by rw [HL.out]; exact markedTo_all k zs
        go_ret
        refine ⟨rfl, ?_, hG.out⟩
        have h := hO.out
        rw [e] at h
        exact h

set_option maxRecDepth 100000 in
set_option maxHeartbeats 1000000 in
theorem held_any (v : Value) (n : Nat) (w : World) (k : Int) (h : Ints w v (marks k n)) (hn : n ≤ 2097152) (hk : 0 ≤ k) (hk' : k ≤ 1000000000) :
    Calls Tryd.prog 17 #[v, .int .i64 k] w fun e w' => e = .returned (.int .i64 (k + n)) ∧ Below w.heap.size w w' := by
  by_cases h0 : n = 0
  · subst h0
    obtain ⟨a, cap, rfl⟩ := Ints.nil h
    go_enter Tryd.func17, Tryd.ntmps17
    go_wp2
    go_rounds 1
    go_ret
    exact ⟨by simp, bdN _ 0⟩
  · obtain ⟨b, off, cap, rfl, hc⟩ := h.pos (by rw [marks_length]; omega)
    rw [marks_length] at *
    have H1 : Hid (∀ j, j < n → w.cell? ⟨b, off + j, none⟩ = some (.int .i64 (k + j))) := fun j hj => by rw [hc j hj, marks_get k n j hj]
    clear hc h
    go_enter Tryd.func17, Tryd.ntmps17
    go_wp2
    go_loop [1, 5] (fun kk i => ∃ j : Nat, j ≤ n ∧ i = .int .i64 j ∧ kk = .int .i64 (k + j)) (fun _ i => n - (intOf i).toNat)
    case atStart => exact ⟨0, Nat.zero_le _, rfl, by go_num⟩
    case round =>
      obtain ⟨j, hj, rfl, rfl⟩ := hrel
      by_cases hlt : j < n
      · have c1 : w.cell? ⟨b, off + j, none⟩ = some (.int .i64 (k + j)) := H1.out j hlt
        have hne : (k + (j : Int) != k + (j : Int)) = false := by simp
        go_wp2
        go_round
        case rel => exact ⟨j + 1, by omega, by go_num, by go_num⟩
        case measure => simp [intOf]; omega
      · have hkn : j = n := by omega
        subst hkn
        go_wp2
        go_ret
        exact ⟨rfl, Below.refl _ _⟩
theorem eqSelf_any (a b : Value) (xs : List Int) (w : World) (ha : Ints w a xs) (hb : Ints w b xs) (hn : xs.length ≤ 2097152) :
    Calls Tryd.prog 14 #[a, b] w fun e w' => e = .returned (.bool true) ∧ Below w.heap.size w w' :=
  (eqInts_any a b xs xs w ha hb hn hn).mono fun e w' ⟨h, h'⟩ => ⟨by rw [h]; simp, h'⟩
end Go.Proofs.YtcdjabhdbobghaaDoor
