/-
  No statement is proved here: what the laws draw from bytes, and their own comparisons; condition: at most 3000 bytes.
-/
import Derived.Test.YtpnfombolnaldaaGreatDoorDrawWeb
namespace Go.Proofs.YtpnfombolnaldaaGreatDoor
open Go.ChangeShapes Go.WideShapes Go.ChangeAt Go.RowKit


set_option maxRecDepth 100000 in
set_option maxHeartbeats 2000000 in
theorem a2Web_any (v : Value) (bs : List Int) (w : World) (hb : Bytes w v bs) (hn : bs.length ≤ 3000) :
    Calls Tryz.prog 5 #[v] w fun e w' => ∃ (r : Value) (zs : List Int), e = .returned r ∧ Own w' w.heap.size r zs ∧ okD zs ∧ Below w.heap.size w w' := by
  obtain ⟨a1, c1, rfl⟩ := hb.len
  have HB := Lib.hid hb
  have hbl : ∀ b o s c m, Value.slice a1 bs.length c1 = .slice (some ⟨b, o, s⟩) m c → 0 < m → b < w.heap.size := by
    intro b o s c m e h0
    rcases hb with ⟨_, _, _, hz⟩ | ⟨b', off, cap, he, _, hlt, _⟩
    · simp only [Value.slice.injEq] at e
      rw [hz] at e
      simp at e
      omega
    · simp only [Value.slice.injEq] at e he
      have h1 := he.1.symm.trans e.1
      simp only [Option.some.injEq, Addr.mk.injEq] at h1
      omega
  have HBL := Lib.hid hbl
  clear hb hbl
  go_enter Tryz.func5, Tryz.ntmps5
  go_wp2_with (first | (go_at_call 30; go_in) | fail)
  have hg : w.grownBy (w.alloc (.cells #[.slice a1 bs.length c1, .int .i64 0, .int .u64 0] 82)) (none : Option Nat) := World.grownBy_alloc w _ none
  have hsrc : Src (w.alloc (.cells #[.slice a1 bs.length c1, .int .i64 0, .int .u64 0] 82)) w.heap.size (.slice a1 bs.length c1) 0 :=
    ⟨0, 0, Nat.le_refl _, by simp [go_sem], by simp [go_sem], by simp [go_sem], fun o => by simp [go_sem]⟩
  refine (drawn_any _ bs w.heap.size _ hsrc (HB.out.far (B := w.heap.size) HBL.out hg (fun k hk => by cases hk)) (fun b o s c m e h0 => by have := HBL.out b o s c m e h0; omega) (fun b o s c m e h0 => by have := HBL.out b o s c m e h0; simp; omega) hn).mono ?_
  rintro e w1 ⟨r, zs, rfl, own, hz, g⟩
  have O1 : Hid (Own w1 w.heap.size r zs) := own.mono (by simp)
  have Z1 := Lib.hid hz
  have B1 : Hid (Below w.heap.size w w1) := ((Below.refl _ _).grown hg (Nat.le_refl _) (fun k hk => by cases hk)).grown g (by simp) (fun k hk => Nat.le_of_eq (Option.some.inj hk))
  clear own hz g hg hsrc
  go_wp2_with fail
  go_ret
  exact ⟨_, zs, rfl, O1.out, Z1.out, B1.out⟩

set_option linter.unusedVariables false in
set_option maxRecDepth 100000 in
set_option maxHeartbeats 2000000 in
theorem a2At_any (v : Value) (bs : List Int) (i n : Int) (w : World) (hb : Bytes w v bs) (hn : bs.length ≤ 3000) (hi : 0 ≤ i) (hi' : i ≤ 100) (h1 : 1 ≤ n) (h1' : n ≤ 1000000) :
    Calls Tryz.prog 7 #[v, .int .i64 i, .int .i64 n] w fun e w' => ∃ r : Int, e = .returned (.int .i64 r) ∧ 0 ≤ r ∧ r < n ∧ Below w.heap.size w w' := by
  obtain ⟨a, rfl⟩ := Int.eq_ofNat_of_zero_le hi
  by_cases h : a < bs.length
  · rcases hb with ⟨_, _, _, hz⟩ | ⟨b, off, cap, rfl, hp, hbl, hc⟩
    · rw [hz] at h; simp at h
    · obtain ⟨hca, hr0, hr1⟩ := hc a h
      have hab : (a : Int) < (bs.length : Int) := by omega
      obtain ⟨z, hzz⟩ : ∃ z, z = bs.getD a 0 := ⟨_, rfl⟩
      rw [← hzz] at hca hr0 hr1
      have hm := Int.emod_lt_of_pos z (show 0 < n by omega)
      have hm0 := Int.emod_nonneg z (show n ≠ 0 by omega)
      have hmt : z.tmod n = z % n := Int.tmod_eq_emod_of_nonneg hr0
      clear hc hzz
      go_enter Tryz.func7, Tryz.ntmps7
      go_wp2_with fail
      go_ret
      exact ⟨_, rfl, by first | exact hm0 | (rw [hmt]; exact hm0), by first | exact hm | (rw [hmt]; exact hm), Below.refl _ _⟩
  · obtain ⟨a1, c1, rfl⟩ := hb.len
    have hab : ¬ ((a : Int) < (bs.length : Int)) := by omega
    go_enter Tryz.func7, Tryz.ntmps7
    go_wp2_with fail
    go_ret
    exact ⟨0, rfl, by omega, by omega, Below.refl _ _⟩

set_option maxRecDepth 100000 in
set_option maxHeartbeats 1000000 in
theorem l00Same_any (a b : Value) (xs ys : List Int) (w : World) (ha : Ints w a xs) (hb : Ints w b ys) (hn : xs.length ≤ 2097152) (hn' : ys.length ≤ 2097152) :
    Calls Tryz.prog 49 #[a, b] w fun e w' => e = .returned (.bool (decide (xs = ys))) ∧ Below w.heap.size w w' := by
  by_cases hl : xs.length = ys.length
  · by_cases h0 : xs.length = 0
    · have hx : xs = [] := List.length_eq_zero_iff.1 h0
      have hy : ys = [] := List.length_eq_zero_iff.1 (by omega)
      subst hx
      subst hy
      obtain ⟨a1, c1, rfl⟩ := ha.nil
      obtain ⟨a2, c2, rfl⟩ := hb.nil
      clear ha hb hl h0 hn hn'
      go_enter Tryz.func49, Tryz.ntmps49
      go_wp2
      go_rounds 1
      go_ret
      exact ⟨rfl, Below.refl _ _⟩
    · obtain ⟨b1, o1, c1, rfl, hc1⟩ := ha.pos (by omega)
      obtain ⟨b2, o2, c2, rfl, hc2⟩ := hb.pos (by omega)
      clear ha hb
      have HE := Lib.hid (@eq_of_all xs ys hl)
      rw [← hl] at hc2 hn' ⊢
      obtain ⟨r, hr⟩ : ∃ r, r = decide (xs = ys) := ⟨_, rfl⟩
      rw [← hr]
      have HR := Lib.hid hr
      clear hr
      obtain ⟨n, hln⟩ : ∃ n, n = xs.length := ⟨_, rfl⟩
      have HL := Lib.hid hln
      rw [← hln] at hc1 hc2 hn h0 HE ⊢
      clear hln hl hn' HL
      have H1 := Lib.hid hc1
      have H2 := Lib.hid hc2
      clear hc1 hc2
      go_enter Tryz.func49, Tryz.ntmps49
      go_wp2
      go_loopw [5] (fun i wr => ∃ k : Nat, k ≤ n ∧ i = .int .i64 k ∧ Hid (∀ j, j < k → xs.getD j 0 = ys.getD j 0) ∧ ∃ nd, wr = w.drewN nd) (fun i _ => n - (intOf i).toNat)
      case atStart => exact ⟨0, Nat.zero_le _, rfl, fun j hj => by omega, 0, rfl⟩
      case round =>
        obtain ⟨k, hk, rfl, hS, nd, rfl⟩ := hrel
        by_cases hlt : k < n
        · have c1 : w.cell? ⟨b1, o1 + k, none⟩ = some (.int .i64 (xs.getD k 0)) := H1.out k hlt
          have c2 : w.cell? ⟨b2, o2 + k, none⟩ = some (.int .i64 (ys.getD k 0)) := H2.out k hlt
          obtain ⟨xk, hxk⟩ : ∃ xk, xk = xs.getD k 0 := ⟨_, rfl⟩
          obtain ⟨yk, hyk⟩ : ∃ yk, yk = ys.getD k 0 := ⟨_, rfl⟩
          rw [← hxk] at c1
          rw [← hyk] at c2
          by_cases he : xk = yk
          · have hne : (xk != yk) = false := by simp [he]
            have HE2 := Lib.hid (hxk.symm.trans (he.trans hyk))
            clear hxk hyk he
            go_wp2
            go_region
            all_goals
              go_wp2
              go_roundw
              case rel =>
                refine ⟨k + 1, by omega, by go_num, fun j hj => ?_, nd + 1, rfl⟩
                by_cases hjk : j = k
                · subst hjk
                  exact HE2.out
                · exact hS.out j (by omega)
              case measure => simp [intOf]; omega
          · have hne : (xk != yk) = true := by rw [bne_iff_ne]; exact he
            have HE2 : Hid (r = false) := by
              rw [HR.out]
              refine decide_eq_false fun h => he ?_
              rw [hxk, hyk, h]
            clear hxk hyk
            go_wp2
            go_region
            all_goals
              go_wp2
              go_ret
              exact ⟨ret_bool HE2.out.symm, bdN _ _⟩
        · have hkn : k = n := by omega
          subst hkn
          have HE2 : Hid (r = true) := by
            rw [HR.out]
            exact decide_eq_true (HE.out hS.out)
          go_wp2
          go_ret
          exact ⟨ret_bool HE2.out.symm, bdN _ _⟩
  · obtain ⟨a1, c1, rfl⟩ := ha.len
    obtain ⟨a2, c2, rfl⟩ := hb.len
    have hne : decide (xs = ys) = false := decide_eq_false fun e => hl (by rw [e])
    rw [hne]
    clear ha hb hne
    have hbn : ((xs.length : Int) != (ys.length : Int)) = true := by rw [bne_iff_ne]; omega
    go_enter Tryz.func49, Tryz.ntmps49
    go_wp2
    go_ret
    exact ⟨rfl, Below.refl _ _⟩

set_option maxRecDepth 100000 in
theorem a2Same_any (a b : Value) (xs : List Int) (w : World) (ha : Ints w a xs) (hb : Ints w b xs) (hn : xs.length ≤ 2097152) :
    Calls Tryz.prog 18 #[a, b] w fun e w' => e = .returned (.bool true) ∧ Below w.heap.size w w' := by
  have H := Lib.hid (l00Same_any a b xs xs w ha hb hn hn)
  have hd : decide (xs = xs) = true := by simp
  rw [hd] at H
  clear hd ha hb
  go_enter Tryz.func18, Tryz.ntmps18
  go_wp2_with fail
  refine H.out.mono ?_
  rintro e w1 ⟨rfl, hB⟩
  have HB := Lib.hid hB
  clear hB
  go_wp2_with fail
  go_ret
  exact ⟨rfl, HB.out⟩
end Go.Proofs.YtpnfombolnaldaaGreatDoor
