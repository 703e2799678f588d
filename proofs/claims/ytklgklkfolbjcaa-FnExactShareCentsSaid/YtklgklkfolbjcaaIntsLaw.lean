/-
  No statement is proved here: how a law copies a list, compares two lists, marks one and looks at the marks; condition: at most 2097152 numbers.
-/
import Derived.Test.YtklgklkfolbjcaaIntsMark
namespace Go.Proofs.Ytklgklkfolbjcaa
open Go.ChangeShapes Go.WideShapes Go.ChangeAt Go.RowKit


set_option maxRecDepth 100000 in
set_option maxHeartbeats 1000000 in
theorem toInts_any (v : Value) (zs : List Int) (w : World) (h : Ints w v zs) (hn : zs.length ≤ 1048576) :
    Calls Try.prog 22 #[v] w fun e w' => ∃ u, e = .returned u ∧ Own w' w.heap.size u zs ∧ Below w.heap.size w w' := by
  obtain ⟨i0, hi, hz0, hz1, hz2⟩ := info_parts info64
  rcases h with ⟨a, cap, rfl, rfl⟩ | ⟨b, off, cap, rfl, h0, hb, hc⟩
  · go_enter Try.func22, Try.ntmps22
    go_wp2_with (first | (at_make; refine wpList_make_full _ rfl _ _ 36 rfl w.heap.size 2 i0 (.int .i64 0) 1 Try.underlying36 hi hz0 hz1 _ _ _ _ 0 rfl rfl rfl rfl (by omega) (by decide) (Nat.le_refl _) ?_; intro w1 hown hgrow) | go_in)
    go_rounds 1
    go_ret
    exact ⟨_, rfl, by simpa [madeCells, Own] using hown, (Below.refl _ _).grown hgrow (Nat.le_refl _) (fun k hk => by cases hk)⟩
  · obtain ⟨n, hln⟩ : ∃ n, n = zs.length := ⟨_, rfl⟩
    have HL := Lib.hid hln
    rw [← hln] at h0 hn hc ⊢
    clear hln
    obtain ⟨B, hBe⟩ : ∃ B, B = w.heap.size := ⟨_, rfl⟩
    rw [← hBe] at hb ⊢
    have HB := Lib.hid hBe
    clear hBe
    go_enter Try.func22, Try.ntmps22
    go_wp2_with (first | (at_make; refine wpList_make_full _ rfl _ _ 36 rfl w.heap.size 2 i0 (.int .i64 0) 1 Try.underlying36 hi hz0 hz1 _ _ _ _ n rfl rfl rfl rfl (by rw [hz2]; omega) (by unfold maxLen; omega) (Nat.le_refl _) ?_; intro w1 hown hgrow) | go_in)
    have hB1 : Below B w w1 := (Below.refl _ _).grown hgrow (by rw [HB.out]; omega) (fun k hk => by cases hk)
    have hfl := fun k (hk : k ≤ n) => fill_length zs k (by rw [← HL.out]; exact hk)
    have hst := fun k (hk : k < n) => fill_step zs k (by rw [← HL.out]; exact hk)
    have hz0' : (madeCells (Value.int IntKind.i64 0).cells (n * 1)).toList = (fill zs 0).map (Value.int .i64) := by
      rw [fill_zero, ← HL.out, Nat.mul_one]
      show (madeCells #[Value.int IntKind.i64 0] n).toList = _
      rw [toList_madeCells_one]
      simp
    rw [hz0', ← HB.out] at hown
    rw [← HB.out]
    have HW := Lib.hid hown
    have HC := Lib.hid hc
    have HBB := Lib.hid hB1
    have HFL := Lib.hid hfl
    have HST := Lib.hid hst
    clear hown hc hB1 hgrow hz0' hfl hst
    go_loopw [4] (fun i wr => ∃ k : Nat, k ≤ n ∧ i = .int .i64 k ∧ Hid (wr.ownsRow B 2 1 (.slice (some ⟨B, 0, none⟩) n n) n ((fill zs k).map (Value.int .i64))) ∧ Hid (Below B w wr)) (fun i _ => n - (intOf i).toNat)
    case atStart => exact ⟨0, Nat.zero_le _, rfl, HW, HBB⟩
    case round =>
      obtain ⟨k, hk, rfl, hO, hBe⟩ := hrel
      have hcx : k < n → wr.cell? ⟨b, off + k, none⟩ = some (.int .i64 (zs.getD k 0)) := fun h => (hBe.out.cell (p := ⟨b, off + k, none⟩) hb).trans (HC.out k h)
      have hcy : k < n → wr.cell? ⟨B, k, none⟩ = some (.int .i64 ((fill zs k).getD k 0)) := fun h => (hO.out.cellAt k (by omega)).trans (cellOf (by rw [HFL.out k hk, ← HL.out]; exact h))
      have hfy : wr.frozen? ⟨B, k, none⟩ = false := hO.out.frozenAt k
      go_wp2
      · have hlt : k < n := by assumption
        go_roundw
        case rel =>
          refine ⟨k + 1, by omega, by go_num, ?_, Lib.hid (hBe.out.setCell (p := ⟨B, k, none⟩) (by rw [HB.out]; exact Nat.le_refl _) _)⟩
          have h := (hO.out.stored k (Value.int .i64 (zs.getD k 0))).1
          rw [← List.map_set, HST.out k hlt] at h
          exact Lib.hid h
        case measure => simp [intOf]; omega
      · have hkn : k = n := by omega
        subst hkn
        have e : fill zs k = zs := by rw [HL.out]; exact fill_all zs
        go_ret
        refine ⟨_, rfl, ?_, hBe.out⟩
        have h := hO.out
        rw [e] at h
        unfold Own
        rw [← HL.out]
        exact h

set_option maxRecDepth 100000 in
set_option maxHeartbeats 1000000 in
theorem eqInts_any (a b : Value) (xs ys : List Int) (w : World) (ha : Ints w a xs) (hb : Ints w b ys) (hn : xs.length ≤ 2097152) (hn' : ys.length ≤ 2097152) :
    Calls Try.prog 24 #[a, b] w fun e w' => e = .returned (.bool (decide (xs = ys))) ∧ Below w.heap.size w w' := by
  by_cases hl : xs.length = ys.length
  · by_cases h0 : xs.length = 0
    · have hx : xs = [] := List.length_eq_zero_iff.1 h0
      have hy : ys = [] := List.length_eq_zero_iff.1 (by omega)
      subst hx
      subst hy
      obtain ⟨a1, c1, rfl⟩ := ha.nil
      obtain ⟨a2, c2, rfl⟩ := hb.nil
      clear ha hb hl h0 hn hn'
      go_enter Try.func24, Try.ntmps24
      go_wp2
      go_rounds 1
      go_ret
      exact ⟨rfl, Below.refl _ _⟩
    · obtain ⟨b1, o1, c1, rfl, hc1⟩ := ha.pos (by omega)
      obtain ⟨b2, o2, c2, rfl, hc2⟩ := hb.pos (by omega)
      clear ha hb
      have HE := Lib.hid (@eq_of_all xs ys hl)
      rw [← hl] at hc2 hn' ⊢
      obtain ⟨r, hr⟩ : ∃ r, r = decide (xs = ys) := ⟨_, rfl⟩
      rw [← hr]
      have HR := Lib.hid hr
      clear hr
      obtain ⟨n, hln⟩ : ∃ n, n = xs.length := ⟨_, rfl⟩
      have HL := Lib.hid hln
      rw [← hln] at hc1 hc2 hn h0 HE ⊢
      clear hln hl hn' HL
      have H1 := Lib.hid hc1
      have H2 := Lib.hid hc2
      clear hc1 hc2
      go_enter Try.func24, Try.ntmps24
      go_wp2
      go_loopw [5] (fun i wr => ∃ k : Nat, k ≤ n ∧ i = .int .i64 k ∧ Hid (∀ j, j < k → xs.getD j 0 = ys.getD j 0) ∧ ∃ nd, wr = w.drewN nd) (fun i _ => n - (intOf i).toNat)
      case atStart => exact ⟨0, Nat.zero_le _, rfl, fun j hj => by omega, 0, rfl⟩
      case round =>
        obtain ⟨k, hk, rfl, hS, nd, rfl⟩ := hrel
        by_cases hlt : k < n
        · have c1 : w.cell? ⟨b1, o1 + k, none⟩ = some (.int .i64 (xs.getD k 0)) := H1.out k hlt
          have c2 : w.cell? ⟨b2, o2 + k, none⟩ = some (.int .i64 (ys.getD k 0)) := H2.out k hlt
          obtain ⟨xk, hxk⟩ : ∃ xk, xk = xs.getD k 0 := ⟨_, rfl⟩
          obtain ⟨yk, hyk⟩ : ∃ yk, yk = ys.getD k 0 := ⟨_, rfl⟩
          rw [← hxk] at c1
          rw [← hyk] at c2
          by_cases he : xk = yk
          · have hne : (xk != yk) = false := by simp [he]
            have HE2 := Lib.hid (hxk.symm.trans (he.trans hyk))
            clear hxk hyk he
            go_wp2
            go_region
            all_goals
              go_wp2
              go_roundw
              case rel =>
                refine ⟨k + 1, by omega, by go_num, fun j hj => ?_, nd + 1, rfl⟩
                by_cases hjk : j = k
                · subst hjk
                  exact HE2.out
                · exact hS.out j (by omega)
              case measure => simp [intOf]; omega
          · have hne : (xk != yk) = true := by rw [bne_iff_ne]; exact he
            have HE2 : Hid (r = false) := by
              rw [HR.out]
              refine decide_eq_false fun h => he ?_
              rw [hxk, hyk, h]
            clear hxk hyk
            go_wp2
            go_region
            all_goals
              go_wp2
              go_ret
              exact ⟨ret_bool HE2.out.symm, bdN _ _⟩
        · have hkn : k = n := by omega
          subst hkn
          have HE2 : Hid (r = true) := by
            rw [HR.out]
            exact decide_eq_true (HE.out hS.out)
          go_wp2
          go_ret
          exact ⟨ret_bool HE2.out.symm, bdN _ _⟩
  · obtain ⟨a1, c1, rfl⟩ := ha.len
    obtain ⟨a2, c2, rfl⟩ := hb.len
    have hne : decide (xs = ys) = false := decide_eq_false fun e => hl (by rw [e])
    rw [hne]
    clear ha hb hne
    have hbn : ((xs.length : Int) != (ys.length : Int)) = true := by rw [bne_iff_ne]; omega
    go_enter Try.func24, Try.ntmps24
    go_wp2
    go_ret
    exact ⟨rfl, Below.refl _ _⟩

set_option maxRecDepth 100000 in
set_option maxHeartbeats 1000000 in
theorem mark_any (v : Value) (zs : List Int) (base : Nat) (w : World) (k : Int) (h : Own w base v zs) (hn : zs.length ≤ 2097152) (hk : 0 ≤ k) (hk' : k ≤ 1000000000) :
    Calls Try.prog 29 #[v, .int .i64 k] w fun e w' => e = .returned (.int .i64 (k + zs.length)) ∧ Own w' base v (marks k zs.length) ∧ w.grownBy w' v.ownBlock := by
  rcases h.block with ⟨rfl, rfl⟩ | ⟨g, cap, rfl, hbg, hg, _, hc, hf⟩
  · go_enter Try.func29, Try.ntmps29
    go_wp2
    go_rounds 1
    go_ret
    exact ⟨by simp, World.ownsRow_nil _ _ _ _, World.grownBy.refl _ _⟩
  · clear hc hf
    obtain ⟨n, hln⟩ : ∃ n, n = zs.length := ⟨_, rfl⟩
    have HL := Lib.hid hln
    have hrow := h.row
    unfold Own
    rw [marks_length, ← hln]
    rw [← hln] at hn hrow
    clear hln h
    go_enter Try.func29, Try.ntmps29
    go_wp2
    have HFL := Lib.hid fun j (hj : j ≤ n) => markedTo_length k zs j (by rw [← HL.out]; exact hj)
    have HST := Lib.hid fun j (hj : j < n) => markedTo_step k zs j (by rw [← HL.out]; exact hj)
    have HW : Hid (w.ownsRow base 2 1 (.slice (some ⟨g, 0, none⟩) n cap) n ((markedTo k zs 0).map (Value.int .i64))) := by rw [markedTo_zero]; exact hrow
    clear hrow
    go_loopw [1, 5] (fun kk i wr => ∃ j : Nat, j ≤ n ∧ i = .int .i64 j ∧ kk = .int .i64 (k + j) ∧ Hid (wr.ownsRow base 2 1 (.slice (some ⟨g, 0, none⟩) n cap) n ((markedTo k zs j).map (Value.int .i64))) ∧ Hid (w.grownBy wr (some g))) (fun _ i _ => n - (intOf i).toNat)
    case atStart => exact ⟨0, Nat.zero_le _, rfl, by go_num, HW, World.grownBy.refl _ _⟩
    case round =>
      obtain ⟨j, hj, rfl, rfl, hO, hG⟩ := hrel
      have hcy : j < n → wr.cell? ⟨g, j, none⟩ = some (.int .i64 ((markedTo k zs j).getD j 0)) := fun h => (hO.out.cellAt j (by omega)).trans (cellOf (by rw [HFL.out j hj, ← HL.out]; exact h))
      have hfy : wr.frozen? ⟨g, j, none⟩ = false := hO.out.frozenAt j
      go_wp2
      · have hlt : j < n := by assumption
        go_roundw
        case rel =>
          have h := hO.out.stored j (Value.int .i64 (k + j))
          refine ⟨j + 1, by omega, by go_num, by go_num, ?_, Lib.hid (grown_trans hG.out h.2)⟩
          have h1 := h.1
          rw [← List.map_set, HST.out j hlt] at h1
          exact Lib.hid h1
        case measure => simp [intOf]; omega
      · have hkn : j = n := by omega
        subst hkn
        have e : markedTo k zs j = marks k j := by rw [HL.out]; exact markedTo_all k zs
        go_ret
        refine ⟨rfl, ?_, hG.out⟩
        have h := hO.out
        rw [e] at h
        exact h

set_option maxRecDepth 100000 in
set_option maxHeartbeats 1000000 in
theorem held_any (v : Value) (n : Nat) (w : World) (k : Int) (h : Ints w v (marks k n)) (hn : n ≤ 2097152) (hk : 0 ≤ k) (hk' : k ≤ 1000000000) :
    Calls Try.prog 30 #[v, .int .i64 k] w fun e w' => e = .returned (.int .i64 (k + n)) ∧ Below w.heap.size w w' := by
  by_cases h0 : n = 0
  · subst h0
    obtain ⟨a, cap, rfl⟩ := Ints.nil h
    go_enter Try.func30, Try.ntmps30
    go_wp2
    go_rounds 1
    go_ret
    exact ⟨by simp, bdN _ 0⟩
  · obtain ⟨b, off, cap, rfl, hc⟩ := h.pos (by rw [marks_length]; omega)
    rw [marks_length] at *
    have H1 : Hid (∀ j, j < n → w.cell? ⟨b, off + j, none⟩ = some (.int .i64 (k + j))) := fun j hj => by rw [hc j hj, marks_get k n j hj]
    clear hc h
    go_enter Try.func30, Try.ntmps30
    go_wp2
    go_loop [1, 5] (fun kk i => ∃ j : Nat, j ≤ n ∧ i = .int .i64 j ∧ kk = .int .i64 (k + j)) (fun _ i => n - (intOf i).toNat)
    case atStart => exact ⟨0, Nat.zero_le _, rfl, by go_num⟩
    case round =>
      obtain ⟨j, hj, rfl, rfl⟩ := hrel
      by_cases hlt : j < n
      · have c1 : w.cell? ⟨b, off + j, none⟩ = some (.int .i64 (k + j)) := H1.out j hlt
        have hne : (k + (j : Int) != k + (j : Int)) = false := by simp
        go_wp2
        go_round
        case rel => exact ⟨j + 1, by omega, by go_num, by go_num⟩
        case measure => simp [intOf]; omega
      · have hkn : j = n := by omega
        subst hkn
        go_wp2
        go_ret
        exact ⟨rfl, Below.refl _ _⟩
theorem eqSelf_any (a b : Value) (xs : List Int) (w : World) (ha : Ints w a xs) (hb : Ints w b xs) (hn : xs.length ≤ 2097152) :
    Calls Try.prog 24 #[a, b] w fun e w' => e = .returned (.bool true) ∧ Below w.heap.size w w' :=
  (eqInts_any a b xs xs w ha hb hn hn).mono fun e w' ⟨h, h'⟩ => ⟨by rw [h]; simp, h'⟩
end Go.Proofs.Ytklgklkfolbjcaa
