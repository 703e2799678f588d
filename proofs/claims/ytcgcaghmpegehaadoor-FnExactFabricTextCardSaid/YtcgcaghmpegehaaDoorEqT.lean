/-
  No statement is proved here: how a law copies texts and fabrics, weighs and compares them; condition: at most 2097152 texts.
-/
import Derived.Test.YtcgcaghmpegehaaDoorStr0
namespace Go.Proofs.YtcgcaghmpegehaaDoor
open Go.ChangeShapes Go.WideShapes Go.ChangeAt Go.RowKit

set_option maxRecDepth 100000 in
set_option maxHeartbeats 1000000 in
theorem eqStrs_any (a b : Value) (xs ys : List ByteArray) (w : World) (ha : Strs w a xs) (hb : Strs w b ys) (hn : xs.length ≤ 2097152) (hn' : ys.length ≤ 2097152) :
    Calls Tryd.prog 15 #[a, b] w fun e w' => e = .returned (.bool (decide (xs = ys))) ∧ Below w.heap.size w w' := by
  by_cases hl : xs.length = ys.length
  · by_cases h0 : xs.length = 0
    · have hx : xs = [] := List.length_eq_zero_iff.1 h0
      have hy : ys = [] := List.length_eq_zero_iff.1 (by omega)
      subst hx
      subst hy
      obtain ⟨a1, c1, rfl⟩ := ha.nil
      obtain ⟨a2, c2, rfl⟩ := hb.nil
      clear ha hb hl h0 hn hn'
      go_enter Tryd.func15, Tryd.ntmps15
      go_wp2
      go_rounds 1
      go_ret
      exact ⟨rfl, Below.refl _ _⟩
    · obtain ⟨b1, o1, c1, rfl, hc1⟩ := ha.pos (by omega)
      obtain ⟨b2, o2, c2, rfl, hc2⟩ := hb.pos (by omega)
      clear ha hb
      have HE := Lib.hid (@eqT_of_all xs ys hl)
      rw [← hl] at hc2 hn' ⊢
      obtain ⟨r, hr⟩ : ∃ r, r = decide (xs = ys) := ⟨_, rfl⟩
      rw [← hr]
      have HR := Lib.hid hr
      clear hr
      obtain ⟨n, hln⟩ : ∃ n, n = xs.length := ⟨_, rfl⟩
      have HL := Lib.hid hln
      rw [← hln] at hc1 hc2 hn h0 HE ⊢
      clear hln hl hn' HL
      have H1 := Lib.hid hc1
      have H2 := Lib.hid hc2
      clear hc1 hc2
      go_enter Tryd.func15, Tryd.ntmps15
      go_wp2
      go_loopw [5] (fun i wr => ∃ k : Nat, k ≤ n ∧ i = .int .i64 k ∧ Hid (∀ j, j < k → xs.getD j ByteArray.empty = ys.getD j ByteArray.empty) ∧ ∃ nd, wr = w.drewN nd) (fun i _ => n - (intOf i).toNat)
      case atStart => exact ⟨0, Nat.zero_le _, rfl, fun j hj => by omega, 0, rfl⟩
      case round =>
        obtain ⟨k, hk, rfl, hS, nd, rfl⟩ := hrel
        by_cases hlt : k < n
        · have c1 : w.cell? ⟨b1, o1 + k, none⟩ = some (.string (xs.getD k ByteArray.empty)) := H1.out k hlt
          have c2 : w.cell? ⟨b2, o2 + k, none⟩ = some (.string (ys.getD k ByteArray.empty)) := H2.out k hlt
          obtain ⟨xk, hxk⟩ : ∃ xk, xk = xs.getD k ByteArray.empty := ⟨_, rfl⟩
          obtain ⟨yk, hyk⟩ : ∃ yk, yk = ys.getD k ByteArray.empty := ⟨_, rfl⟩
          rw [← hxk] at c1
          rw [← hyk] at c2
          by_cases he : xk = yk
          · have hne : (xk.toList == yk.toList) = true := by rw [tl_beq]; exact decide_eq_true he
            have HE2 := Lib.hid (hxk.symm.trans (he.trans hyk))
            clear hxk hyk he
            go_wp2
            go_region
            all_goals
              go_wp2
              go_roundw
              case rel =>
                refine ⟨k + 1, by omega, by go_num, fun j hj => ?_, nd + 1, rfl⟩
                by_cases hjk : j = k
                · subst hjk
                  exact HE2.out
                · exact hS.out j (by omega)
              case measure => simp [intOf]; omega
          · have hne : (xk.toList == yk.toList) = false := by rw [tl_beq]; exact decide_eq_false he
            have HE2 : Hid (r = false) := by
              rw [HR.out]
              refine decide_eq_false fun h => he ?_
              rw [hxk, hyk, h]
            clear hxk hyk
            go_wp2
            go_region
            all_goals
              go_wp2
              go_ret
              exact ⟨ret_bool HE2.out.symm, bdN _ _⟩
        · have hkn : k = n := by omega
          subst hkn
          have HE2 : Hid (r = true) := by
            rw [HR.out]
            exact decide_eq_true (HE.out hS.out)
          go_wp2
          go_ret
          exact ⟨ret_bool HE2.out.symm, bdN _ _⟩
  · obtain ⟨a1, c1, rfl⟩ := ha.len
    obtain ⟨a2, c2, rfl⟩ := hb.len
    have hne : decide (xs = ys) = false := decide_eq_false fun e => hl (by rw [e])
    rw [hne]
    clear ha hb hne
    have hbn : ((xs.length : Int) != (ys.length : Int)) = true := by rw [bne_iff_ne]; omega
    go_enter Tryd.func15, Tryd.ntmps15
    go_wp2
    go_ret
    exact ⟨rfl, Below.refl _ _⟩

theorem eqStrs_self (a b : Value) (xs : List ByteArray) (w : World) (ha : Strs w a xs) (hb : Strs w b xs) (hn : xs.length ≤ 2097152) :
    Calls Tryd.prog 15 #[a, b] w fun e w' => e = .returned (.bool true) ∧ Below w.heap.size w w' :=
  (eqStrs_any a b xs xs w ha hb hn hn).mono fun e w' ⟨h, h'⟩ => ⟨by rw [h]; simp, h'⟩

end Go.Proofs.YtcgcaghmpegehaaDoor
