/-
  No statement is proved here: the turns behind which a skein is tied, as the program and as the document's own text tell them; condition: the program's errors lie where its text lays them.
-/
import Derived.Test.YtcefdmdidakilaaDoorTurns
import Derived.Test.YtcefdmdidakilaaDoorInts
import Derived.Test.YtcefdmdidakilaaDoorIntsEq
import Derived.Deep.AppendLies
namespace Go.Proofs.YtcefdmdidakilaaDoor
open Go.ChangeShapes Go.WideShapes Go.ChangeAt Go.RowKit

/-- The first k multiples of e. -/
def tiesTo (e : Int) (k : Nat) : List Int := (List.range k).map fun (j : Nat) => ((j : Int) + 1) * e
theorem tiesTo_succ (e : Int) (k : Nat) : tiesTo e (k + 1) = tiesTo e k ++ [((k : Int) + 1) * e] := by
  unfold tiesTo
  rw [List.range_succ, List.map_append]
  rfl
theorem tiesTo_length (e : Int) (k : Nat) : (tiesTo e k).length = k := by simp [tiesTo]
/-- The turns with ties. -/
def tiesL (t e : Int) : List Int := if 0 < t then tiesTo e ((t.toNat - 1) / e.toNat) ++ [t] else []
def tiesF (t e : Int) : List Int × Int := if (inB t 0 1000 && inB e 1 1000) = true then (tiesL t e, 0) else ([], 2)
theorem tiesF_no {t e : Int} (h : (inB t 0 1000 && inB e 1 1000) = false) : tiesF t e = ([], 2) := by unfold tiesF; rw [h]; rfl
theorem tiesF_yes {t e : Int} (h : (inB t 0 1000 && inB e 1 1000) = true) : tiesF t e = (tiesL t e, 0) := if_pos h
theorem tiesL_none (e : Int) : tiesL 0 e = [] := rfl
theorem tiesL_at {T E k : Nat} (h0 : 0 < T) (h1 : k * E < T ∨ k = 0) (h2 : T ≤ (k + 1) * E) : tiesL (T : Int) (E : Int) = tiesTo (E : Int) k ++ [(T : Int)] := by
  unfold tiesL
  rw [if_pos (by omega)]
  have e : (T - 1) / E = k := by
    refine Nat.div_eq_of_lt_le ?_ ?_
    · rcases h1 with h1 | rfl
      · omega
      · omega
    · omega
  have e2 : ((T : Int).toNat - 1) / (E : Int).toNat = k := e
  rw [e2]
theorem div_at {n E : Nat} (hE : 0 < E) : n / E * E < n + 1 ∧ n + 1 ≤ (n / E + 1) * E := by
  have h1 := Nat.div_add_mod n E
  have h2 := Nat.mod_lt n hE
  have h3 : n / E * E = E * (n / E) := Nat.mul_comm _ _
  have h4 : (n / E + 1) * E = E * (n / E) + E := by rw [Nat.add_mul, h3, Nat.one_mul]
  omega
theorem div_step {n E : Nat} (hE : 0 < E) (h : (n + 1) % E = 0) : (n + 1) / E = n / E + 1 ∧ (n / E + 1) * E = n + 1 := by
  have h0 := div_at (n := n) hE
  have h1 := Nat.div_add_mod (n + 1) E
  have hp : (n + 1) / E = n / E + 1 := by
    rcases Nat.lt_trichotomy ((n + 1) / E) (n / E + 1) with hlt | heq | hgt
    · have := Nat.mul_le_mul_left E (Nat.le_of_lt_succ hlt)
      rw [Nat.mul_comm E (n / E)] at this
      omega
    · exact heq
    · have := Nat.mul_le_mul_left E hgt
      rw [Nat.succ_eq_add_one, Nat.mul_comm E (n / E + 1 + 1), Nat.add_mul _ 1 E] at this
      omega
  refine ⟨hp, ?_⟩
  rw [hp, h, Nat.mul_comm] at h1
  omega
theorem div_stay {n E : Nat} (hE : 0 < E) (h : (n + 1) % E ≠ 0) : (n + 1) / E = n / E := by
  have h0 := div_at (n := n) hE
  have h1 := Nat.div_add_mod (n + 1) E
  have h2 := Nat.mod_lt (n + 1) hE
  rcases Nat.lt_trichotomy ((n + 1) / E) (n / E) with hlt | heq | hgt
  · have := Nat.mul_le_mul_left E hlt
    rw [Nat.succ_eq_add_one, Nat.mul_add, Nat.mul_comm E (n / E)] at this
    omega
  · exact heq
  · have := Nat.mul_le_mul_left E hgt
    rw [Nat.succ_eq_add_one, Nat.mul_comm E (n / E + 1)] at this
    omega
theorem tiesL_len (t e : Int) : (tiesL t e).length ≤ t.toNat := by
  unfold tiesL
  split
  · rw [List.length_append, tiesTo_length]
    have := Nat.div_le_self (t.toNat - 1) e.toNat
    simp
    omega
  · simp
theorem tiesF_len (t e : Int) : (tiesF t e).1.length ≤ 2097152 := by
  cases h : (inB t 0 1000 && inB e 1 1000) with
  | false => rw [tiesF_no h]; simp
  | true =>
    rw [tiesF_yes h]
    have := tiesL_len t e
    rw [Bool.and_eq_true] at h
    obtain ⟨h1, h2⟩ := inB_of h.1
    simp only
    omega

theorem one_one' (a : Int) : ∀ u ∈ [Value.int .i64 a], u.oneCell' = true := by intro u hu; simp at hu; subst hu; rfl
theorem grown_alloc' {w w' : World} {o : Obj} {row : Option Nat} (h : (w.alloc o).grownBy w' row) : w.grownBy w' row :=
  ⟨h.os, h.tape, h.output, Nat.le_trans (by simp) h.size, fun i hi hne => (h.block i (by simp; omega) hne).trans (Below.heap_alloc w o i hi)⟩

set_option maxRecDepth 100000 in
set_option maxHeartbeats 4000000 in
theorem implTies_any (p : Nat → Addr) (t e : Int) (w : World) (hs : Sent w p) :
    Calls Tryd.prog 11 #[.int .i64 t, .int .i64 e] w fun en w' => ∃ r, en = .returned (.tuple #[r, .int .i64 (tiesF t e).2]) ∧ Own w' w.heap.size r (tiesF t e).1 ∧ Below w.heap.size w w' := by
  obtain ⟨i0, hi, hz0, hz1, hz2⟩ := info_parts info64
  have HS := Lib.hid hs
  have q1 := neqNil_err
  have q2 := neqNil_nil
  clear hs
  have C := Lib.hid fun b cap wx h h0 h1 => check2_any p b cap t 0 1000 e 1 1000 wx h h0 h1
  cases h : (inB t 0 1000 && inB e 1 1000) with
  | false =>
    rw [tiesF_no h]
    rw [h, errIn_no] at C
    have HC := Lib.hid fun wx hx => codeOf_err (p := p) 1 (by omega) wx hx
    clear h
    go_enter Tryd.func11, Tryd.ntmps11
    go_wp2_with fail
    refine (C.out _ _ _ (HS.out.below ((Below.refl _ _).alloc (Nat.le_refl _) _)) (by simp [go_sem]) (by simp [go_sem])).mono ?_
    rintro en w2 ⟨rfl, hB⟩
    have B2 := Lib.hid (((Below.refl w.heap.size w).alloc (Nat.le_refl _) _).trans (hB.mono (by simp)))
    clear hB
    go_wp2_with fail
    refine (HC.out _ (HS.out.below B2.out)).mono ?_
    rintro en w' ⟨rfl, rfl⟩
    go_wp2
    go_ret2
    exact ⟨_, rfl, World.ownsRow_nil _ _ _ _, B2.out⟩
  | true =>
    rw [tiesF_yes h]
    rw [h, errIn_yes] at C
    rw [Bool.and_eq_true] at h
    obtain ⟨t1, t2⟩ := inB_of h.1
    obtain ⟨e1, e2⟩ := inB_of h.2
    clear h
    obtain ⟨T, rfl⟩ : ∃ T : Nat, t = (T : Int) := ⟨t.toNat, by omega⟩
    obtain ⟨E, hE⟩ : ∃ E : Nat, e = (E : Int) := ⟨e.toNat, by omega⟩
    have hE1 : 1 ≤ E := by omega
    have hE2 : E ≤ 1000 := by omega
    have hT2 : T ≤ 1000 := by omega
    have JL := Lib.hid fun (k : Nat) (h0 : 0 < T) h1 h2 => tiesL_at (T := T) (E := E) (k := k) h0 h1 h2
    have J0 := Lib.hid (show T = 0 → tiesL (T : Int) (E : Int) = [] from fun h => by subst h; rfl)
    rw [← hE] at JL J0
    have HEE := Lib.hid hE
    clear hE
    generalize tiesL (T : Int) e = out at *
    obtain ⟨B, hBe⟩ : ∃ B, B = w.heap.size := ⟨_, rfl⟩
    rw [← hBe]
    have HBe := Lib.hid hBe
    clear hBe
    go_enter Tryd.func11, Tryd.ntmps11
    go_wp2_with fail
    refine (C.out _ _ _ (HS.out.below ((Below.refl _ _).alloc (Nat.le_refl _) _)) (by simp [go_sem]) (by simp [go_sem])).mono ?_
    rintro en w2 ⟨rfl, hB⟩
    have B2 := Lib.hid (((Below.refl w.heap.size w).alloc (Nat.le_refl _) _).trans (hB.mono (by simp)))
    clear hB
    have Z2 := Lib.hid B2.out.size
    rw [← HBe.out] at B2 Z2
    go_wp2_with fail
    go_loopw [7, 8] (fun v i wr => ∃ (k : Nat) (u : Value) (x : Int), i = .int .i64 x ∧ u = v ∧ k ≤ T ∧ 1 ≤ x ∧ x ≤ 2000 ∧ Hid (x = ((k : Int) + 1) * e) ∧ Hid (k * E < T ∨ k = 0) ∧ Hid (wr.ownsRow B 2 1 v k ((tiesTo e k).map (Value.int .i64))) ∧ Hid (Below B w wr) ∧ Hid (B ≤ wr.heap.size)) (fun _ i _ => 2000 - (intOf i).toNat)
    case atStart => exact ⟨0, _, e, rfl, rfl, Nat.zero_le _, e1, by omega, Lib.hid (by simp), Lib.hid (.inr rfl), Lib.hid (World.ownsRow_nil _ _ _ _), B2, Z2⟩
    case round =>
      obtain ⟨k, v, x, rfl, rfl, hkT, hx1, hx2, hX, hK, hO, hBe, hZ⟩ := hrel
      by_cases hlt : x < (T : Int)
      · have HT := Lib.hid (tiesTo_succ e k)
        rw [← hX.out] at HT
        have hX2 := Lib.hid (show x + e = (((k + 1 : Nat) : Int) + 1) * e by rw [hX.out, Int.add_mul ((k + 1 : Nat) : Int) 1 e]; push_cast; omega)
        have hxE : x = (((k + 1) * E : Nat) : Int) := by rw [hX.out, HEE.out]; push_cast; rfl
        have hK2 := Lib.hid (show (k + 1) * E < T ∨ k + 1 = 0 from .inl (by omega))
        have hk1 : k + 1 ≤ T := by
          have := Nat.le_mul_of_pos_right (k + 1) hE1
          omega
        clear hxE hX hK
        go_wp2_with (first
          | (at_builtin; refine wpList_append_lies _ rfl _ _ _ rfl B 2 i0 (.int .i64 0) 1 8 Tryd.underlying30 hi hz0 hz1 hz2 rfl (by omega) v k _ rfl (hO.out.alloc _) ⟨wr.heap.size, 0, none⟩ 1 1 [.int .i64 x] rfl rfl (World.news_of_block (heap_alloc_new wr _)) (one_one' _) (by omega) (by unfold maxLen; omega) (by omega) (by have := hZ.out; simp; omega) (wr.heap.size + 1) (by simp) ?_; intro gg cap w3 hown3 hgrow hat hlt2)
          | fail)
        have hE3 := Lib.hid (hBe.out.grown (grown_alloc' hgrow) hZ.out (fun k hk => (hO.out.lt k hk).1))
        have hZ3 := Lib.hid (Nat.le_trans hZ.out (grown_alloc' hgrow).size)
        have HO3 : Hid (w3.ownsRow B 2 1 (.slice (some ⟨gg, 0, none⟩) (k + 1) cap) (k + 1) ((tiesTo e (k + 1)).map (Value.int .i64))) := by
          rw [HT.out, List.map_append]
          exact hown3
        clear hgrow hown3 hat hlt2
        go_wp2
        go_roundw
        case rel => exact ⟨k + 1, _, x + e, by go_num, rfl, hk1, by omega, by omega, hX2, hK2, HO3, hE3, hZ3⟩
        case measure => simp [intOf]; omega
      · by_cases h0 : (0 : Int) < (T : Int)
        · have hxE : x = (((k + 1) * E : Nat) : Int) := by rw [hX.out, HEE.out]; push_cast; rfl
          have HF := Lib.hid (JL.out k (by omega) hK.out (by omega))
          clear hxE hX hK
          go_wp2_with (first
            | (at_builtin; refine wpList_append_lies _ rfl _ _ _ rfl B 2 i0 (.int .i64 0) 1 8 Tryd.underlying30 hi hz0 hz1 hz2 rfl (by omega) v k _ rfl (hO.out.alloc _) ⟨wr.heap.size, 0, none⟩ 1 1 [.int .i64 (T : Int)] rfl rfl (World.news_of_block (heap_alloc_new wr _)) (one_one' _) (by omega) (by unfold maxLen; omega) (by omega) (by have := hZ.out; simp; omega) (wr.heap.size + 1) (by simp) ?_; intro gg cap w3 hown3 hgrow hat hlt2)
            | fail)
          have hE3 := Lib.hid (hBe.out.grown (grown_alloc' hgrow) hZ.out (fun k hk => (hO.out.lt k hk).1))
          have HO3 : Hid (Own w3 B (.slice (some ⟨gg, 0, none⟩) (k + 1) cap) out) := by
            rw [HF.out]
            unfold Own
            rw [List.length_append, tiesTo_length, List.map_append]
            exact hown3
          clear hgrow hown3 hat hlt2
          go_wp2
          go_ret2
          exact ⟨_, rfl, HO3.out, hE3.out⟩
        · obtain rfl : k = 0 := by omega
          have HF := Lib.hid (J0.out (by omega))
          have HO3 : Hid (Own wr B v out) := by
            rw [HF.out]
            exact Lib.hid hO.out
          clear hX hK hO
          go_wp2
          go_ret2
          exact ⟨_, rfl, HO3.out, hBe.out⟩

set_option maxRecDepth 100000 in
set_option maxHeartbeats 4000000 in
theorem specTies_any (t e : Int) (w : World) :
    Calls Tryd.prog 12 #[.int .i64 t, .int .i64 e] w fun en w' => ∃ r, en = .returned (.tuple #[r, .int .i64 (tiesF t e).2]) ∧ Own w' w.heap.size r (tiesF t e).1 ∧ Below w.heap.size w w' := by
  obtain ⟨i0, hi, hz0, hz1, hz2⟩ := info_parts info64
  have H1 := Lib.hid fun wx => in_any t 0 1000 wx
  have H2 := Lib.hid fun wx => in_any e 1 1000 wx
  cases h1 : inB t 0 1000 with
  | false =>
    rw [tiesF_no (by rw [h1]; rfl)]
    rw [h1] at H1
    go_enter Tryd.func12, Tryd.ntmps12
    go_wp2_with fail
    refine (H1.out _).mono ?_
    rintro en w' ⟨rfl, rfl⟩
    go_wp2
    go_ret2
    exact ⟨_, rfl, World.ownsRow_made w #[] 0 (Nat.le_refl _) (by decide) rfl, (Below.refl _ _).alloc (Nat.le_refl _) _⟩
  | true =>
    cases h2 : inB e 1 1000 with
    | false =>
      rw [tiesF_no (by rw [h2]; simp)]
      rw [h1] at H1
      rw [h2] at H2
      go_enter Tryd.func12, Tryd.ntmps12
      go_wp2_with fail
      refine (H1.out _).mono ?_
      rintro en w' ⟨rfl, rfl⟩
      go_wp2_with fail
      refine (H2.out _).mono ?_
      rintro en w' ⟨rfl, rfl⟩
      go_wp2
      go_ret2
      exact ⟨_, rfl, World.ownsRow_made w #[] 0 (Nat.le_refl _) (by decide) rfl, (Below.refl _ _).alloc (Nat.le_refl _) _⟩
    | true =>
      rw [tiesF_yes (by rw [h1, h2]; rfl)]
      rw [h1] at H1
      rw [h2] at H2
      obtain ⟨t1, t2⟩ := inB_of h1
      obtain ⟨e1, e2⟩ := inB_of h2
      clear h1 h2
      obtain ⟨T, rfl⟩ : ∃ T : Nat, t = (T : Int) := ⟨t.toNat, by omega⟩
      obtain ⟨E, hE⟩ : ∃ E : Nat, e = (E : Int) := ⟨e.toNat, by omega⟩
      have hE1 : 1 ≤ E := by omega
      have hT2 : T ≤ 1000 := by omega
      have u7 : (e == 0) = false := by rw [beq_eq_false_iff_ne]; omega
      have JL := Lib.hid (show ∀ n : Nat, n + 1 = T → tiesL (T : Int) (E : Int) = tiesTo (E : Int) (n / E) ++ [((n : Int) + 1)] from fun n hn => by
        have hd := div_at (n := n) hE1
        rw [tiesL_at (T := T) (E := E) (k := n / E) (by omega) (by omega) (by omega), ← hn]
        rfl)
      have J0 := Lib.hid (show T = 0 → tiesL (T : Int) (E : Int) = [] from fun h => by subst h; rfl)
      have JY := Lib.hid (show ∀ n : Nat, ((n : Int) + 1) % (E : Int) = 0 → tiesTo (E : Int) ((n + 1) / E) = tiesTo (E : Int) (n / E) ++ [(n : Int) + 1] from fun n h => by
        obtain ⟨a, b⟩ := div_step (n := n) hE1 (by exact_mod_cast h)
        rw [a, tiesTo_succ]
        congr 2
        have : (((n / E + 1) * E : Nat) : Int) = ((n + 1 : Nat) : Int) := by rw [b]
        push_cast at this
        exact this)
      have JN := Lib.hid (show ∀ n : Nat, ¬ ((n : Int) + 1) % (E : Int) = 0 → tiesTo (E : Int) ((n + 1) / E) = tiesTo (E : Int) (n / E) from fun n h => by
        rw [div_stay (n := n) hE1 (by exact_mod_cast h)])
      have JD := Lib.hid (show ∀ n : Nat, ((n : Int) + 1) % (E : Int) = 0 → (n + 1) / E = n / E + 1 from fun n h => (div_step (n := n) hE1 (by exact_mod_cast h)).1)
      have JDN := Lib.hid (show ∀ n : Nat, ¬ ((n : Int) + 1) % (E : Int) = 0 → (n + 1) / E = n / E from fun n h => div_stay (n := n) hE1 (by exact_mod_cast h))
      have HLn := Lib.hid (show ∀ n : Nat, n ≤ 1000 → n / E ≤ 1000 from fun n hn => Nat.le_trans (Nat.div_le_self n E) hn)
      rw [← hE] at JL J0 JY JN JD JDN
      clear hE
      generalize tiesL (T : Int) e = out at *
      have HB0 := Lib.hid (show (w.alloc (.cells #[] 2)).ownsRow w.heap.size 2 1 (.slice (some ⟨w.heap.size, 0, none⟩) 0 0) (0 / E) ((tiesTo e (0 / E)).map (Value.int .i64)) from by rw [Nat.zero_div]; exact World.ownsRow_made (size := 1) (e := 2) w #[] 0 (Nat.le_refl _) (by decide) rfl)
      have HBel := Lib.hid ((Below.refl w.heap.size w).alloc (Nat.le_refl _) (.cells #[] 2))
      have HZ0 := Lib.hid (show w.heap.size ≤ (w.alloc (.cells #[] 2)).heap.size by simp)
      go_enter Tryd.func12, Tryd.ntmps12
      go_wp2_with fail
      refine (H1.out _).mono ?_
      rintro en w' ⟨rfl, rfl⟩
      go_wp2_with fail
      refine (H2.out _).mono ?_
      rintro en w' ⟨rfl, rfl⟩
      go_wp2_with fail
      go_loopw [6, 7] (fun v i wr => ∃ (n : Nat) (u : Value), i = .int .i64 ((n : Int) + 1) ∧ u = v ∧ n ≤ T ∧ ((n < T ∧ Hid (wr.ownsRow w.heap.size 2 1 v (n / E) ((tiesTo e (n / E)).map (Value.int .i64)))) ∨ (n = T ∧ Hid (Own wr w.heap.size v out))) ∧ Hid (Below w.heap.size w wr) ∧ Hid (w.heap.size ≤ wr.heap.size)) (fun _ i _ => 1001 - (intOf i).toNat)
      case atStart =>
        by_cases hT0 : T = 0
        · exact ⟨0, _, rfl, rfl, Nat.zero_le _, .inr ⟨hT0.symm, Lib.hid (by rw [J0.out hT0]; exact World.ownsRow_made (size := 1) (e := 2) w #[] 0 (Nat.le_refl _) (by decide) rfl)⟩, HBel, HZ0⟩
        · exact ⟨0, _, rfl, rfl, Nat.zero_le _, .inl ⟨by omega, HB0⟩, HBel, HZ0⟩
      case round =>
        clear HB0 HBel HZ0
        obtain ⟨n, v, rfl, rfl, hnT, hO, hBe, hZ⟩ := hrel
        by_cases hlt : ((n : Int) + 1) ≤ (T : Int)
        · obtain ⟨hn1, hO1⟩ : n < T ∧ Hid (wr.ownsRow w.heap.size 2 1 v (n / E) ((tiesTo e (n / E)).map (Value.int .i64))) := by
            rcases hO with h | h
            · exact h
            · omega
          clear hO
          obtain ⟨K, hKd⟩ : ∃ K, n / E = K := ⟨_, rfl⟩
          have jl := JL.out n
          have jy := JY.out n
          have jn := JN.out n
          have hl := HLn.out n (by omega)
          rw [hKd] at hO1 jl jy jn hl
          have hd1 := JD.out n
          have hd2 := JDN.out n
          rw [hKd] at hd1 hd2
          have HD := Lib.hid hd1
          have HDN := Lib.hid hd2
          have JL' := Lib.hid jl
          have JY' := Lib.hid jy
          have JN' := Lib.hid jn
          clear hKd jl jy jn hd1 hd2
          have r1 : 0 ≤ ((n : Int) + 1) % e := Int.emod_nonneg _ (by omega)
          have r2 : ((n : Int) + 1) % e < e := Int.emod_lt_of_pos _ (by omega)
          have hm : ((n : Int) + 1).tmod e = ((n : Int) + 1) % e := Int.tmod_eq_emod_of_nonneg (by omega)
          generalize ((n : Int) + 1) % e = r at *
          have u1 : ∀ [Inhabited Nat], IntKind.i64.wrap r = r := by intro _; exact (IntWalk.i64_in _ (by omega)).trans (by omega)
          have u2 : ∀ [Inhabited Nat], wrap64 r = r := by intro _; exact (IntWalk.wrap64_in _ (by omega)).trans (by omega)
          by_cases hnT1 : n + 1 = T
          · by_cases hr : r = 0
            · subst hr
              have HF := Lib.hid (JL'.out hnT1)
              subst hnT1
              have hdec : (((n : Int) + 1) == ((n + 1 : Nat) : Int)) = true := by simp
              go_wp2_with (first
                | (at_builtin; refine wpList_append_lies _ rfl _ _ _ rfl w.heap.size 2 i0 (.int .i64 0) 1 8 Tryd.underlying30 hi hz0 hz1 hz2 rfl (by omega) v K _ rfl (hO1.out.alloc _) ⟨wr.heap.size, 0, none⟩ 1 1 [.int .i64 ((n : Int) + 1)] rfl rfl (World.news_of_block (heap_alloc_new wr _)) (one_one' _) (by omega) (by unfold maxLen; omega) (by omega) (by have := hZ.out; simp; omega) (wr.heap.size + 1) (by simp) ?_; intro gg cap w3 hown3 hgrow hat hlt2)
                | fail)
              have hE3 := Lib.hid (hBe.out.grown (grown_alloc' hgrow) hZ.out (fun k hk => (hO1.out.lt k hk).1))
              have hZ3 := Lib.hid (Nat.le_trans hZ.out (grown_alloc' hgrow).size)
              have HO3 : Hid (Own w3 w.heap.size (.slice (some ⟨gg, 0, none⟩) (K + 1) cap) out) := by
                rw [HF.out]
                unfold Own
                rw [List.length_append, tiesTo_length, List.map_append]
                exact Lib.hid hown3
              clear hgrow hown3 hat hlt2
              go_wp2
              go_roundw
              case rel => first | exact ⟨n + 1, _, by go_num, rfl, by omega, .inr ⟨rfl, HO3⟩, hE3, hZ3⟩ | exact ⟨n + 1, by go_num, by omega, .inr ⟨rfl, HO3⟩, hE3, hZ3⟩ | exact ⟨n + 1, by go_num, .inr ⟨rfl, HO3⟩, hE3, hZ3⟩
              case measure => simp [intOf]; omega
            · have hr2 : (r == 0) = false := by simp [hr]
              have HF := Lib.hid (JL'.out hnT1)
              subst hnT1
              have hdec : (((n : Int) + 1) == ((n + 1 : Nat) : Int)) = true := by simp
              go_wp2_with (first
                | (at_builtin; refine wpList_append_lies _ rfl _ _ _ rfl w.heap.size 2 i0 (.int .i64 0) 1 8 Tryd.underlying30 hi hz0 hz1 hz2 rfl (by omega) v K _ rfl (hO1.out.alloc _) ⟨wr.heap.size, 0, none⟩ 1 1 [.int .i64 ((n : Int) + 1)] rfl rfl (World.news_of_block (heap_alloc_new wr _)) (one_one' _) (by omega) (by unfold maxLen; omega) (by omega) (by have := hZ.out; simp; omega) (wr.heap.size + 1) (by simp) ?_; intro gg cap w3 hown3 hgrow hat hlt2)
                | fail)
              have hE3 := Lib.hid (hBe.out.grown (grown_alloc' hgrow) hZ.out (fun k hk => (hO1.out.lt k hk).1))
              have hZ3 := Lib.hid (Nat.le_trans hZ.out (grown_alloc' hgrow).size)
              have HO3 : Hid (Own w3 w.heap.size (.slice (some ⟨gg, 0, none⟩) (K + 1) cap) out) := by
                rw [HF.out]
                unfold Own
                rw [List.length_append, tiesTo_length, List.map_append]
                exact Lib.hid hown3
              clear hgrow hown3 hat hlt2
              go_wp2
              go_roundw
              case rel => first | exact ⟨n + 1, _, by go_num, rfl, by omega, .inr ⟨rfl, HO3⟩, hE3, hZ3⟩ | exact ⟨n + 1, by go_num, by omega, .inr ⟨rfl, HO3⟩, hE3, hZ3⟩ | exact ⟨n + 1, by go_num, .inr ⟨rfl, HO3⟩, hE3, hZ3⟩
              case measure => simp [intOf]; omega
          · have hne : (((n : Int) + 1) == (T : Int)) = false := by rw [beq_eq_false_iff_ne]; omega
            by_cases hr : r = 0
            · have HT := Lib.hid (JY'.out hr)
              have HK1 := Lib.hid (HD.out hr)
              subst hr
              go_wp2_with (first
                | (at_builtin; refine wpList_append_lies _ rfl _ _ _ rfl w.heap.size 2 i0 (.int .i64 0) 1 8 Tryd.underlying30 hi hz0 hz1 hz2 rfl (by omega) v K _ rfl (hO1.out.alloc _) ⟨wr.heap.size, 0, none⟩ 1 1 [.int .i64 ((n : Int) + 1)] rfl rfl (World.news_of_block (heap_alloc_new wr _)) (one_one' _) (by omega) (by unfold maxLen; omega) (by omega) (by have := hZ.out; simp; omega) (wr.heap.size + 1) (by simp) ?_; intro gg cap w3 hown3 hgrow hat hlt2)
                | fail)
              have hE3 := Lib.hid (hBe.out.grown (grown_alloc' hgrow) hZ.out (fun k hk => (hO1.out.lt k hk).1))
              have hZ3 := Lib.hid (Nat.le_trans hZ.out (grown_alloc' hgrow).size)
              have HO3 : Hid (w3.ownsRow w.heap.size 2 1 (.slice (some ⟨gg, 0, none⟩) (K + 1) cap) (K + 1) ((tiesTo e (K + 1)).map (Value.int .i64))) := by
                rw [show tiesTo e (K + 1) = tiesTo e K ++ [(n : Int) + 1] by rw [← HK1.out]; exact HT.out, List.map_append]
                exact Lib.hid hown3
              clear hgrow hown3 hat hlt2
              go_wp2
              go_roundw
              case rel => exact ⟨n + 1, _, by go_num, rfl, by omega, .inl ⟨by omega, by rw [HK1.out]; exact HO3⟩, hE3, hZ3⟩
              case measure => simp [intOf]; omega
            · have hr2 : (r == 0) = false := by simp [hr]
              have HO3 : Hid (wr.ownsRow w.heap.size 2 1 v ((n + 1) / E) ((tiesTo e ((n + 1) / E)).map (Value.int .i64))) := by
                rw [JN'.out hr, HDN.out hr]
                exact hO1
              go_wp2
              go_roundw
              case rel => exact ⟨n + 1, v, by go_num, rfl, by omega, .inl ⟨by omega, HO3⟩, hBe, hZ⟩
              case measure => simp [intOf]; omega
        · obtain ⟨hn1, hO⟩ : n = T ∧ Hid (Own wr w.heap.size v out) := by
            rcases hO with h | h
            · omega
            · exact h
          have hlt2 : (T : Int) < ((n : Int) + 1) := by omega
          go_wp2
          go_ret2
          exact ⟨_, rfl, hO.out, hBe.out⟩
end Go.Proofs.YtcefdmdidakilaaDoor
