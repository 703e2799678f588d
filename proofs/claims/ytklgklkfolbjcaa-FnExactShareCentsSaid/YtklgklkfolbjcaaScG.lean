/-
  No statement is proved here: cents that are left are given, in the program; condition: at most 1048576 numbers.
-/
import Derived.Test.YtklgklkfolbjcaaScM
import Derived.Test.YtklgklkfolbjcaaRec
import Derived.Laws.OwnMore
import Derived.Deep.LoopGhost
namespace Go.Proofs.Ytklgklkfolbjcaa
open Go.ChangeShapes Go.WideShapes Go.ChangeAt Go.RowKit

/-- Given to those of the first k that have a place. -/
def part (P : Nat → Bool) (k : Nat) : Nat → Bool := fun i => decide (i < k) && P i
theorem part_zero (S : Nat → Int) (P : Nat → Bool) (n : Nat) : lst (give S (part P 0)) n = lst S n := lst_same fun i _ => by simp [give, part]
theorem part_all (S : Nat → Int) (P : Nat → Bool) (n : Nat) : lst (give S (part P n)) n = lst (give S P) n := lst_same fun i hi => by simp [give, part, hi]
theorem part_get (S : Nat → Int) (P : Nat → Bool) {n k : Nat} (h : k < n) : (lst (give S (part P k)) n).getD k 0 = S k := by
  rw [lst_get h]
  simp [give, part]
theorem part_skip (S : Nat → Int) {P : Nat → Bool} (n : Nat) {k : Nat} (h : P k = false) : lst (give S (part P k)) n = lst (give S (part P (k + 1))) n := lst_same fun i _ => by
  unfold give part
  by_cases e : i = k
  · subst e
    simp [h]
  · by_cases e2 : i < k
    · simp [e2, show i < k + 1 by omega]
    · simp [e2, show ¬ i < k + 1 by omega]
theorem part_put (S : Nat → Int) {P : Nat → Bool} (n : Nat) {k : Nat} (h : P k = true) : (lst (give S (part P k)) n).set k (S k + 1) = lst (give S (part P (k + 1))) n := by
  rw [lst_set]
  refine lst_same fun i _ => ?_
  unfold give part
  by_cases e : i = k
  · subst e
    simp [h]
  · rw [if_neg e]
    by_cases e2 : i < k
    · simp [e2, show i < k + 1 by omega]
    · simp [e2, show ¬ i < k + 1 by omega]
theorem grownBy_setS (W : World) (b a : Nat) (v : Value) : W.grownBy (W.setCell ⟨b, a, none⟩ v) (some b) :=
  ⟨rfl, rfl, rfl, by simp, fun i _ hne => Below.heap_setCell _ _ _ i (fun e => hne (by rw [e]))⟩
theorem grownBy_selfS (W : World) (r : Option Nat) : W.grownBy W r := ⟨rfl, rfl, rfl, Nat.le_refl _, fun _ _ _ => rfl⟩

set_option maxRecDepth 100000 in
set_option maxHeartbeats 4000000 in
theorem giveLeft_any (b0 c0 b1 c1 base : Nat) (S R : Nat → Int) (n : Nat) (L : Int) (w : World) (ho : Own w base (.slice (some ⟨b0, 0, none⟩) n c0) (lst S n)) (hr : ∀ j, j < n → w.cell? ⟨b1, j, none⟩ = some (.int .i64 (R j))) (hne : b1 ≠ b0) (hb1 : b1 < w.heap.size) (hn : n ≤ 1048576) (hS : ∀ j, j < n → 0 ≤ S j ∧ S j ≤ 1000000) :
    Calls Try.prog 55 #[.slice (some ⟨b0, 0, none⟩) n c0, .slice (some ⟨b1, 0, none⟩) n c1, .int .i64 L] w fun e w' => e = .returned (.tuple #[]) ∧ Own w' base (.slice (some ⟨b0, 0, none⟩) n c0) (lst (give S fun i => decide ((rank R n i : Int) < L)) n) ∧ w.grownBy w' (some b0) := by
  have HS := Lib.hid hS
  have HR := Lib.hid hr
  have HP0 := Lib.hid fun k (hk : k < n) => part_get S (fun i => decide ((rank R n i : Int) < L)) hk
  have HP1 := Lib.hid fun k (h : decide ((rank R n k : Int) < L) = false) => part_skip S n (P := fun i => decide ((rank R n i : Int) < L)) (k := k) h
  have HP2 := Lib.hid fun k (h : decide ((rank R n k : Int) < L) = true) => part_put S n (P := fun i => decide ((rank R n i : Int) < L)) (k := k) h
  have HP3 := Lib.hid (part_all S (fun i => decide ((rank R n i : Int) < L)) n)
  have HLN := Lib.hid (fun k => lst_length (give S (part (fun i => decide ((rank R n i : Int) < L)) k)) n)
  have O0 : Hid (Own w base (.slice (some ⟨b0, 0, none⟩) n c0) (lst (give S (part (fun i => decide ((rank R n i : Int) < L)) 0)) n)) := Lib.hid (by rw [part_zero]; exact ho)
  have HRK := Lib.hid (fun i k (hk : k ≤ n) => (cnt_pre (fun j => better R j i) n hk : cnt (fun j => better R j i) k ≤ rank R n i))
  have HCN := Lib.hid (fun i k => cnt_le (fun j => better R j i) k)
  have HG0 := Lib.hid (grownBy_selfS w (some b0))
  have HNE := Lib.hid hne
  clear hS hr ho hne
  go_enter Try.func55, Try.ntmps55
  go_wp2
  go_step3
  go_wp2
  go_step3
  go_wp2
  go_loopg [13] n (fun g i wr => ∃ k : Nat, k + g = n ∧ i = .int .i64 k ∧ Hid (Own wr base (.slice (some ⟨b0, 0, none⟩) n c0) (lst (give S (part (fun i => decide ((rank R n i : Int) < L)) k)) n)) ∧ Hid (w.grownBy wr (some b0)))
  case atStart => exact ⟨0, by omega, rfl, O0, HG0⟩
  case round =>
    clear O0 HG0
    obtain ⟨k, hkg, rfl, hO, hG⟩ := hrel
    have HC : Hid (∀ j, j < n → wr.cell? ⟨b1, j, none⟩ = some (.int .i64 (R j))) := Lib.hid fun j hj => (World.cell?_of_block (w := w) (a := ⟨b1, j, none⟩) (hG.out.block b1 hb1 fun e => HNE.out (Option.some.inj e))).trans (HR.out j hj)
    cases gk with
    | zero =>
      have hkn : k = n := by omega
      subst hkn
      go_wp2
      rw [Exit.noGoto_normal]
      go_end0
      refine ⟨rfl, ?_, hG.out⟩
      rw [← HP3.out]
      exact hO.out
    | succ g =>
      have hlt : k < n := by omega
      have hki : (k : Int) < (n : Int) := by omega
      have c1 := HC.out k hlt
      have hrow := hO.out.row
      rw [HLN.out k] at hrow
      have s1 : wr.cell? ⟨b0, k, none⟩ = some (.int .i64 (S k)) := by
        have := (hrow.cellAt k (by omega)).trans (cellOf (by rw [HLN.out k]; exact hlt))
        rwa [HP0.out k hlt] at this
      have f1 : wr.frozen? ⟨b0, k, none⟩ = false := hrow.frozenAt k
      have W1 := (hrow.stored k (Value.int .i64 (S k + 1))).1
      rw [← List.map_set] at W1
      have HW1 := Lib.hid W1
      have hs := HS.out k hlt
      obtain ⟨rk, hrk⟩ : ∃ rk, rk = rank R n k := ⟨_, rfl⟩
      have P1 : Hid (decide ((rk : Int) < L) = false → lst (give S (part (fun i => decide ((rank R n i : Int) < L)) k)) n = lst (give S (part (fun i => decide ((rank R n i : Int) < L)) (k + 1))) n) := Lib.hid fun h => HP1.out k (by rw [← hrk]; exact h)
      have P2 : Hid (decide ((rk : Int) < L) = true → (lst (give S (part (fun i => decide ((rank R n i : Int) < L)) k)) n).set k (S k + 1) = lst (give S (part (fun i => decide ((rank R n i : Int) < L)) (k + 1))) n) := Lib.hid fun h => HP2.out k (by rw [← hrk]; exact h)
      have RK : Hid (∀ q, q ≤ n → cnt (fun j => better R j k) q ≤ rk) := Lib.hid fun q hq => by rw [hrk]; exact HRK.out k q hq
      have RN : Hid (cnt (fun j => better R j k) n = rk) := Lib.hid (by rw [hrk]; rfl)
      generalize hsk : S k = sk at *
      obtain ⟨rk0, hr0⟩ : ∃ r, r = R k := ⟨_, rfl⟩
      rw [← hr0] at c1
      have HR0 := Lib.hid hr0
      clear W1 hrow hrk hsk hr0
      go_wp2
      go_loopg [20, 8] n (fun g2 j a wy => ∃ q z : Nat, q + g2 = n ∧ z ≤ q ∧ j = .int .i64 q ∧ a = .int .i64 z ∧ Hid (z = cnt (fun j => better R j k) q) ∧ Hid (q = 0 ∨ (z : Int) < L) ∧ wr = wy)
      case atStart => exact ⟨0, 0, by omega, by omega, rfl, rfl, Lib.hid rfl, Lib.hid (.inl rfl), rfl⟩
      case round =>
        obtain ⟨q, z, hqg, hzq, rfl, rfl, hz, hq0, rfl⟩ := hrel
        cases gk with
        | zero =>
          have hqn : q = n := by omega
          have hdec : decide ((rk : Int) < L) = true := decide_eq_true (by
            have h1 := hz.out
            rw [hqn, RN.out] at h1
            rcases hq0.out with h2 | h2
            · omega
            · omega)
          have HE := Lib.hid (P2.out hdec)
          subst hqn
          clear hdec
          go_wp2
          go_roundg g
          case measure => omega
          case rel =>
            refine ⟨k + 1, by omega, by go_num, ?_, ?_⟩
            · refine Lib.hid ?_
              show World.ownsRow _ _ _ _ _ _ _
              rw [HLN.out (k + 1), ← HE.out]
              exact HW1.out
            · exact Lib.hid (grown_tr hG.out (grownBy_setS _ _ _ _))
        | succ g2 =>
          have hlt2 : q < n := by omega
          have hqi : (q : Int) < (n : Int) := by omega
          have c2 := HC.out q hlt2
          have hrk := RK.out (q + 1) (by omega)
          have HST : Hid (cnt (fun j => better R j k) (q + 1) = z + if better R q k = true then 1 else 0) := Lib.hid (by rw [hz.out]; rfl)
          have HBI := Lib.hid (better_iff (R := R) (j := q) (i := k))
          rw [← HR0.out] at HBI
          generalize hrq : R q = rq at *
          clear hrq
          by_cases hb : rk0 < rq ∨ (rq = rk0 ∧ q < k)
          · have e1 : cnt (fun j => better R j k) (q + 1) = z + 1 := by rw [HST.out, if_pos (HBI.out.2 hb)]
            rw [e1] at hrk
            have HE1 := Lib.hid e1
            have hL : Hid ((L ≤ (z : Int) + 1) → decide ((rk : Int) < L) = false) := Lib.hid fun h => decide_eq_false (by omega)
            clear e1 hrk
            by_cases h3 : L ≤ (z : Int) + 1
            · have HE := Lib.hid (P1.out (hL.out h3))
              by_cases h1 : rk0 < rq
              · go_wp2
                go_roundg g
                case measure => omega
                case rel => exact ⟨k + 1, by omega, by go_num, Lib.hid (by rw [← HE.out]; exact hO.out), hG⟩
              · have h2 : (rq == rk0) = true := by rw [beq_iff_eq]; omega
                have h4 : (q : Int) < (k : Int) := by omega
                clear hb
                go_wp2
                go_roundg g
                case measure => omega
                case rel => exact ⟨k + 1, by omega, by go_num, Lib.hid (by rw [← HE.out]; exact hO.out), hG⟩
            · by_cases h1 : rk0 < rq
              · go_wp2
                go_roundg g2
                case measure => omega
                case rel => exact ⟨q + 1, z + 1, by omega, by omega, by go_num, by go_num, Lib.hid HE1.out.symm, Lib.hid (.inr (by omega)), rfl⟩
              · have h2 : (rq == rk0) = true := by rw [beq_iff_eq]; omega
                have h4 : (q : Int) < (k : Int) := by omega
                clear hb
                go_wp2
                go_roundg g2
                case measure => omega
                case rel => exact ⟨q + 1, z + 1, by omega, by omega, by go_num, by go_num, Lib.hid HE1.out.symm, Lib.hid (.inr (by omega)), rfl⟩
          · have e1 : cnt (fun j => better R j k) (q + 1) = z := by rw [HST.out, if_neg (fun h => hb (HBI.out.1 h)), Nat.add_zero]
            rw [e1] at hrk
            have HE1 := Lib.hid e1
            have hL : Hid ((L ≤ (z : Int)) → decide ((rk : Int) < L) = false) := Lib.hid fun h => decide_eq_false (by omega)
            have h1 : ¬ rk0 < rq := fun h => hb (.inl h)
            have h5 : rq = rk0 → ¬ q < k := fun e h => hb (.inr ⟨e, h⟩)
            clear e1 hrk hb
            by_cases h3 : L ≤ (z : Int)
            · have HE := Lib.hid (P1.out (hL.out h3))
              by_cases h2 : rq = rk0
              · have h4 : ¬ (q : Int) < (k : Int) := by have := h5 h2; omega
                have h6 : (rq == rk0) = true := by rw [beq_iff_eq]; exact h2
                clear h5 h2
                go_wp2
                go_roundg g
                case measure => omega
                case rel => exact ⟨k + 1, by omega, by go_num, Lib.hid (by rw [← HE.out]; exact hO.out), hG⟩
              · have h6 : (rq == rk0) = false := by rw [beq_eq_false_iff_ne]; exact h2
                clear h5 h2
                go_wp2
                go_roundg g
                case measure => omega
                case rel => exact ⟨k + 1, by omega, by go_num, Lib.hid (by rw [← HE.out]; exact hO.out), hG⟩
            · by_cases h2 : rq = rk0
              · have h4 : ¬ (q : Int) < (k : Int) := by have := h5 h2; omega
                have h6 : (rq == rk0) = true := by rw [beq_iff_eq]; exact h2
                clear h5 h2
                go_wp2
                go_roundg g2
                case measure => omega
                case rel => exact ⟨q + 1, z, by omega, by omega, by go_num, rfl, Lib.hid HE1.out.symm, Lib.hid (.inr (by omega)), rfl⟩
              · have h6 : (rq == rk0) = false := by rw [beq_eq_false_iff_ne]; exact h2
                clear h5 h2
                go_wp2
                go_roundg g2
                case measure => omega
                case rel => exact ⟨q + 1, z, by omega, by omega, by go_num, rfl, Lib.hid HE1.out.symm, Lib.hid (.inr (by omega)), rfl⟩
end Go.Proofs.Ytklgklkfolbjcaa
