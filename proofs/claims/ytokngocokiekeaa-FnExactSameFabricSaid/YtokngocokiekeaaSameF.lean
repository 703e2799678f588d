/-
  No statement is proved here: whether two fabrics are equal, in the document's own text and in the program; condition: at most 1048576 texts.
-/
import Derived.Test.YtokngocokiekeaaFabP
namespace Go.Proofs.Ytokngocokiekeaa
open Go.ChangeShapes Go.WideShapes Go.ChangeAt Go.RowKit

set_option linter.unusedVariables false in
set_option maxRecDepth 100000 in
set_option maxHeartbeats 1000000 in
theorem sliceEq_any (a b : Value) (xs ys : List ByteArray) (w : World) (ha : Strs w a xs) (hb : Strs w b ys) (hn : xs.length ≤ 2097152) (hn' : ys.length ≤ 2097152) :
    Calls Try.prog 11 #[a, b] w fun e w' => e = .returned (.bool (decide (xs = ys))) ∧ Below w.heap.size w w' := by
  by_cases hl : xs.length = ys.length
  · by_cases h0 : xs.length = 0
    · have hx : xs = [] := List.length_eq_zero_iff.1 h0
      have hy : ys = [] := List.length_eq_zero_iff.1 (by omega)
      subst hx
      subst hy
      obtain ⟨a1, c1, rfl⟩ := ha.nil
      obtain ⟨a2, c2, rfl⟩ := hb.nil
      clear ha hb hl h0 hn hn'
      go_enter Try.func11, Try.ntmps11
      go_wp2
      go_rounds 1
      go_ret
      exact ⟨rfl, Below.refl _ _⟩
    · obtain ⟨b1, o1, c1, rfl, hc1⟩ := ha.pos (by omega)
      obtain ⟨b2, o2, c2, rfl, hc2⟩ := hb.pos (by omega)
      clear ha hb
      have HE := Lib.hid (@eqT_of_all xs ys hl)
      rw [← hl] at hc2 hn' ⊢
      obtain ⟨r, hr⟩ : ∃ r, r = decide (xs = ys) := ⟨_, rfl⟩
      rw [← hr]
      have HR := Lib.hid hr
      clear hr
      obtain ⟨n, hln⟩ : ∃ n, n = xs.length := ⟨_, rfl⟩
      have HL := Lib.hid hln
      rw [← hln] at hc1 hc2 hn h0 HE ⊢
      clear hln hl hn' HL
      have H1 := Lib.hid hc1
      have H2 := Lib.hid hc2
      clear hc1 hc2
      go_enter Try.func11, Try.ntmps11
      go_wp2
      go_loopw [13] (fun i wr => ∃ k : Nat, k ≤ n ∧ i = .int .i64 k ∧ Hid (∀ j, j < k → xs.getD j ByteArray.empty = ys.getD j ByteArray.empty) ∧ ∃ nd, wr = w.drewN nd) (fun i _ => n - (intOf i).toNat)
      case atStart => exact ⟨0, Nat.zero_le _, rfl, fun j hj => by omega, 0, rfl⟩
      case round =>
        obtain ⟨k, hk, rfl, hS, nd, rfl⟩ := hrel
        by_cases hlt : k < n
        · have c1 : w.cell? ⟨b1, o1 + k, none⟩ = some (.string (xs.getD k ByteArray.empty)) := H1.out k hlt
          have c2 : w.cell? ⟨b2, o2 + k, none⟩ = some (.string (ys.getD k ByteArray.empty)) := H2.out k hlt
          obtain ⟨xk, hxk⟩ : ∃ xk, xk = xs.getD k ByteArray.empty := ⟨_, rfl⟩
          obtain ⟨yk, hyk⟩ : ∃ yk, yk = ys.getD k ByteArray.empty := ⟨_, rfl⟩
          rw [← hxk] at c1
          rw [← hyk] at c2
          by_cases he : xk = yk
          · have hne : (xk.toList == yk.toList) = true := by rw [tl_beq]; exact decide_eq_true he
            have HE2 := Lib.hid (hxk.symm.trans (he.trans hyk))
            clear hxk hyk he
            go_wp2
            go_region
            all_goals
              go_wp2
              go_roundw
              case rel =>
                refine ⟨k + 1, by omega, by go_num, fun j hj => ?_, nd + 1, rfl⟩
                by_cases hjk : j = k
                · subst hjk
                  exact HE2.out
                · exact hS.out j (by omega)
              case measure => simp [intOf]; omega
          · have hne : (xk.toList == yk.toList) = false := by rw [tl_beq]; exact decide_eq_false he
            have HE2 : Hid (r = false) := by
              rw [HR.out]
              refine decide_eq_false fun h => he ?_
              rw [hxk, hyk, h]
            clear hxk hyk
            go_wp2
            go_region
            all_goals
              go_wp2
              go_ret
              exact ⟨ret_bool HE2.out.symm, bdN _ _⟩
        · have hkn : k = n := by omega
          subst hkn
          have HE2 : Hid (r = true) := by
            rw [HR.out]
            exact decide_eq_true (HE.out hS.out)
          go_wp2
          go_ret
          exact ⟨ret_bool HE2.out.symm, bdN _ _⟩
  · obtain ⟨a1, c1, rfl⟩ := ha.len
    obtain ⟨a2, c2, rfl⟩ := hb.len
    have hne : decide (xs = ys) = false := decide_eq_false fun e => hl (by rw [e])
    rw [hne]
    clear ha hb hne
    have hbn : ((xs.length : Int) != (ys.length : Int)) = true := by rw [bne_iff_ne]; omega
    go_enter Try.func11, Try.ntmps11
    go_wp2
    go_ret
    exact ⟨rfl, Below.refl _ _⟩


/-- Whether two fabrics are equal. -/
def sameF (c : Int) (L : List ByteArray) (d : Int) (M : List ByteArray) : Bool := decide (c = d) && decide (L = M)

set_option linter.unusedVariables false in
set_option maxRecDepth 100000 in
set_option maxHeartbeats 4000000 in
theorem implSame_any (c : Int) (v : Value) (L : List ByteArray) (d : Int) (u : Value) (M : List ByteArray) (w : World) (h : Strs w v L) (hn : L.length ≤ 1048576) (k : Strs w u M) (hm : M.length ≤ 1048576) :
    Calls Try.prog 7 #[.agg #[.int .i16 c, v], .agg #[.int .i16 d, u]] w fun e w' => e = .returned (.bool (sameF c L d M)) ∧ Below w.heap.size w w' := by
  have B0 : Hid (Below w.heap.size w ((w.alloc (.cells #[.int .i16 c, v] 28)).alloc (.cells #[.int .i16 d, u] 28))) := ((Below.refl w.heap.size w).alloc (Nat.le_refl _) _).alloc (by simp) _
  have HE := Lib.hid (sliceEq_any v u L M _ (h.below B0.out) (k.below B0.out) (by omega) (by omega))
  have HY := Lib.hid (show sameF c L d M = (decide (c = d) && decide (L = M)) from rfl)
  generalize sameF c L d M = R at *
  obtain ⟨a1, c1, rfl⟩ := h.len
  obtain ⟨a2, c2, rfl⟩ := k.len
  clear h k hn hm
  by_cases hcd : c = d
  · have g1 : (c == d) = true := by rw [beq_iff_eq]; exact hcd
    have HR : Hid (R = decide (L = M)) := Lib.hid (by rw [HY.out, decide_eq_true hcd]; rfl)
    clear HY hcd
    go_enter Try.func7, Try.ntmps7
    go_wp2_with fail
    refine HE.out.mono ?_
    rintro e w2 ⟨rfl, hB⟩
    have B2 := Lib.hid (B0.out.trans (hB.mono B0.out.size))
    clear hB
    go_wp2
    go_ret
    exact ⟨ret_bool HR.out.symm, B2.out⟩
  · have g1 : (c == d) = false := by rw [beq_eq_false_iff_ne]; exact hcd
    have HR : Hid (R = false) := Lib.hid (by rw [HY.out, decide_eq_false hcd]; rfl)
    clear HY hcd HE
    go_enter Try.func7, Try.ntmps7
    go_wp2
    go_ret
    exact ⟨ret_bool HR.out.symm, B0.out⟩

set_option linter.unusedVariables false in
set_option maxRecDepth 100000 in
set_option maxHeartbeats 8000000 in
theorem specSame_any (c : Int) (v : Value) (L : List ByteArray) (d : Int) (u : Value) (M : List ByteArray) (w : World) (h : Strs w v L) (hn : L.length ≤ 1048576) (k : Strs w u M) (hm : M.length ≤ 1048576) :
    Calls Try.prog 5 #[.agg #[.int .i16 c, v], .agg #[.int .i16 d, u]] w fun e w' => e = .returned (.bool (sameF c L d M)) ∧ Below w.heap.size w w' := by
  have HY := Lib.hid (show sameF c L d M = (decide (c = d) && decide (L = M)) from rfl)
  generalize sameF c L d M = R at *
  have HALL := Lib.hid (@eqT_of_all L M)
  have HV := Lib.hid h
  have HU := Lib.hid k
  obtain ⟨a1, c1, rfl⟩ := h.len
  obtain ⟨a2, c2, rfl⟩ := k.len
  have A1 : Below (w.alloc (.cells #[.int .i16 c, .slice a1 L.length c1] 28)).heap.size (w.alloc (.cells #[.int .i16 c, .slice a1 L.length c1] 28)) ((w.alloc (.cells #[.int .i16 c, .slice a1 L.length c1] 28)).alloc (.cells #[.int .i16 d, .slice a2 M.length c2] 28)) := (Below.refl _ _).alloc (Nat.le_refl _) _
  have X0 := Lib.hid (hb2_id (hb2_next (hb2_made w (.int .i16 c) (.slice a1 L.length c1) 28) A1))
  have Y0 : Hid (Hb2 w ((w.alloc (.cells #[.int .i16 c, .slice a1 L.length c1] 28)).alloc (.cells #[.int .i16 d, .slice a2 M.length c2] 28)) (w.heap.size + 1) (.int .i16 d) (.slice a2 M.length c2)) := ⟨by simp [go_sem], by simp [go_sem], X0.out.2.2.1, by simp⟩
  clear h k A1
  by_cases hcd : c = d
  · have g1 : (c != d) = false := by simp [hcd]
    by_cases hl : L.length = M.length
    · have HR : Hid (R = decide (L = M)) := Lib.hid (by rw [HY.out, decide_eq_true hcd]; rfl)
      have g2 : ((L.length : Int) != (M.length : Int)) = false := by simp [hl]
      have HSrc : Hid (∀ k, k < L.length → ∃ b1 o1 b2 o2, a1 = some ⟨b1, o1, none⟩ ∧ a2 = some ⟨b2, o2, none⟩ ∧ b1 < w.heap.size ∧ b2 < w.heap.size ∧ w.cell? ⟨b1, o1 + k, none⟩ = some (.string (L.getD k ByteArray.empty)) ∧ w.cell? ⟨b2, o2 + k, none⟩ = some (.string (M.getD k ByteArray.empty))) := by
        intro k hk
        rcases HV.out with ⟨_, _, e, e2⟩ | ⟨b1, o1, _, e, _, hb1, hc1⟩
        · rw [e2] at hk; simp at hk
        · rcases HU.out with ⟨_, _, e', e2⟩ | ⟨b2, o2, _, e', _, hb2, hc2⟩
          · rw [hl, e2] at hk; simp at hk
          · cases e
            cases e'
            exact ⟨b1, o1, b2, o2, rfl, rfl, hb1, hb2, hc1 k hk, hc2 k (hl ▸ hk)⟩
      obtain ⟨n, hln⟩ : ∃ n, n = L.length := ⟨_, rfl⟩
      have hmn : M.length = n := by omega
      have HL := Lib.hid hln
      rw [hmn, ← hln] at X0 Y0 g2
      rw [← hln] at HSrc hn HALL
      have HAL := Lib.hid (HALL.out hmn.symm)
      have e1 : (Value.slice a1 L.length c1) = .slice a1 n c1 := by rw [HL.out]
      have e2 : (Value.slice a2 M.length c2) = .slice a2 n c2 := by rw [hmn]
      rw [e1, e2]
      clear HY hcd hl hm HV HU HALL hmn hln e1 e2
      go_enter Try.func5, Try.ntmps5
      go_wp2_with fail
      generalize (w.alloc (.cells #[.int .i16 c, .slice a1 n c1] 28)).alloc (.cells #[.int .i16 d, .slice a2 n c2] 28) = w2 at *
      obtain ⟨p0, p1, _, _⟩ := X0.out
      obtain ⟨r0, r1, _, _⟩ := Y0.out
      go_loopw [5] (fun i wr => ∃ k : Nat, k ≤ n ∧ i = .int .i64 k ∧ Hid (∀ j, j < k → L.getD j ByteArray.empty = M.getD j ByteArray.empty) ∧ ∃ nd, wr = w2.drewN nd) (fun i _ => n - (intOf i).toNat)
      case atStart => exact ⟨0, Nat.zero_le _, rfl, fun j hj => absurd hj (Nat.not_lt_zero j), 0, rfl⟩
      case round =>
        obtain ⟨k, hk, rfl, hS, nd, rfl⟩ := hrel
        by_cases hlt : k < n
        · obtain ⟨b1, o1, b2, o2, rfl, rfl, hb1, hb2, hc1, hc2⟩ := HSrc.out k hlt
          have c1 := kept X0.out.2.2.1 hb1 hc1
          have c2 := kept X0.out.2.2.1 hb2 hc2
          obtain ⟨xk, hxk⟩ : ∃ xk, xk = L.getD k ByteArray.empty := ⟨_, rfl⟩
          obtain ⟨yk, hyk⟩ : ∃ yk, yk = M.getD k ByteArray.empty := ⟨_, rfl⟩
          rw [← hxk] at c1
          rw [← hyk] at c2
          have i1 : (0 : Int) ≤ (k : Int) := by omega
          have i2 : (k : Int) < (n : Int) := by omega
          clear hc1 hc2
          by_cases he : xk = yk
          · have hne : (xk.toList == yk.toList) = true := by rw [tl_beq]; exact decide_eq_true he
            have HE2 := Lib.hid (hxk.symm.trans (he.trans hyk))
            clear hxk hyk he
            go_wp2_with fail
            go_quiet (fail)
            go_wp2
            go_roundw
            case rel =>
              refine ⟨k + 1, by omega, by go_num, fun j hj => ?_, _, rfl⟩
              by_cases hjk : j = k
              · subst hjk
                exact HE2.out
              · exact hS.out j (by omega)
            case measure => simp [intOf]; omega
          · have hne : (xk.toList == yk.toList) = false := by rw [tl_beq]; exact decide_eq_false he
            have HE2 : Hid (R = false) := Lib.hid (by
              rw [HR.out]
              refine decide_eq_false fun h => he ?_
              rw [hxk, hyk, h])
            clear hxk hyk
            go_wp2_with fail
            go_quiet (fail)
            go_wp2
            go_ret
            exact ⟨ret_bool HE2.out.symm, X0.out.2.2.1.trans (((bdN w2 nd).trans (bdN (w2.drewN nd) _)).mono X0.out.2.2.1.size)⟩
        · have hkn : k = n := by omega
          subst hkn
          have HE2 : Hid (R = true) := Lib.hid (by
            rw [HR.out]
            exact decide_eq_true (HAL.out hS.out))
          go_wp2
          go_ret
          exact ⟨ret_bool HE2.out.symm, X0.out.2.2.1.trans ((bdN _ _).mono X0.out.2.2.1.size)⟩
    · have g2 : ((L.length : Int) != (M.length : Int)) = true := by rw [bne_iff_ne]; omega
      have HR : Hid (R = false) := Lib.hid (by rw [HY.out, decide_eq_false (show ¬ L = M from fun e => hl (by rw [e]))]; simp)
      clear HY hcd hl HV HU HALL
      go_enter Try.func5, Try.ntmps5
      go_wp2
      go_ret
      exact ⟨ret_bool HR.out.symm, X0.out.2.2.1⟩
  · have g1 : (c != d) = true := by rw [bne_iff_ne]; exact hcd
    have HR : Hid (R = false) := Lib.hid (by rw [HY.out, decide_eq_false hcd]; rfl)
    clear HY hcd HV HU HALL
    go_enter Try.func5, Try.ntmps5
    go_wp2
    go_ret
    exact ⟨ret_bool HR.out.symm, X0.out.2.2.1⟩
end Go.Proofs.Ytokngocokiekeaa
