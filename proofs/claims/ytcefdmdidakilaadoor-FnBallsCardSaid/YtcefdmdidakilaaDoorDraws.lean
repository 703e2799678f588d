/-
  No statement is proved here: slices of bytes that came in, what the laws draw from them, and their own comparisons; condition: at most 3000 bytes.
-/
import Derived.Test.YtcefdmdidakilaaDoorInts
import Derived.Test.YtcefdmdidakilaaDoorIntsEq
import Derived.Test.YtcefdmdidakilaaDoorIn
import Derived.Deep.RegionHeld3
import Derived.Deep.QuietTactic
import Derived.Deep.DrawnRows
namespace Go.Proofs.YtcefdmdidakilaaDoor
open Go.ChangeShapes Go.WideShapes Go.ChangeAt Go.RowKit

/-- A slice of bytes: what its cells hold. -/
def Bytes (w : World) (v : Value) (bs : List Int) : Prop :=
  (∃ a cap, v = .slice a 0 cap ∧ bs = []) ∨
  ∃ b off cap, v = .slice (some ⟨b, off, none⟩) bs.length cap ∧ 0 < bs.length ∧ b < w.heap.size ∧ ∀ j, j < bs.length → w.cell? ⟨b, off + j, none⟩ = some (.int .u8 (bs.getD j 0)) ∧ 0 ≤ bs.getD j 0 ∧ bs.getD j 0 ≤ 255

theorem Bytes.below {w w' : World} {v : Value} {bs : List Int} (h : Bytes w v bs) (hB : Below w.heap.size w w') : Bytes w' v bs := by
  rcases h with h | ⟨b, off, cap, rfl, h0, hb, hc⟩
  · exact .inl h
  · exact .inr ⟨b, off, cap, rfl, h0, Nat.lt_of_lt_of_le hb hB.size, fun j hj => ⟨(hB.cell (p := ⟨b, off + j, none⟩) hb).trans (hc j hj).1, (hc j hj).2⟩⟩
theorem Bytes.len {w : World} {v : Value} {bs : List Int} (h : Bytes w v bs) : ∃ a cap, v = .slice a bs.length cap := by
  rcases h with ⟨a, cap, rfl, rfl⟩ | ⟨b, off, cap, rfl, h0, _⟩
  · exact ⟨_, _, rfl⟩
  · exact ⟨_, _, rfl⟩

set_option maxRecDepth 100000 in
theorem open_bytes {H : Type} {enc : TypeId × Value → H} {w : World} {v : Value} {d : DataW H} {p : List MemPlace} {base : Nat} (o : Value.okWide Tryd.prog w .any base 22 v) (k : DataW.Trod enc Tryd.prog w 0 (fun _ => true) true 22 v d p) : ∃ bs, Bytes w v bs := by
  obtain ⟨m, hf⟩ := k
  have hag : ∀ cs, v ≠ .agg cs := by
    rintro cs rfl
    unfold Value.okWide at o
    rw [Tryd.underlying22] at o
    unfold Cell.okWide at o
    rw [Tryd.underlying22] at o
    unfold Cell.ok at o
    rw [Tryd.underlying22] at o
    simp at o
  have hlt := DataW.trod_lt m _ _ _ hf
  rcases open_ints Tryd.underlying22 Tryd.underlying5 (by kernel_rfl) hf with ⟨hcs, hx⟩ | ⟨a, len, cap, zs, hcs, _, hl, hm, hz, hx, hcell, hwz⟩
  · simp [Value.cells] at hcs
    exact ⟨[], .inl (by cases v <;> simp_all)⟩
  · simp only [if_true] at hz
    by_cases hl0 : len = 0
    · subst hl0
      refine ⟨[], .inl ⟨some a, cap, ?_, rfl⟩⟩
      cases v <;> simp_all [Value.cells]
    · obtain ⟨b, off, spot⟩ := a
      have hspot : spot = none := by simpa [Addr.add] using World.cell?_spot (hcell 0 (by omega))
      subst hspot
      simp only [Prod.mk.injEq] at hx
      have hbW : b < w.heap.size := hlt (.cell b off) (by rw [hx.2]; exact MemPlace.mem_row.2 ⟨0, by omega, by simp⟩)
      have hlen : (zs.take len).length = len := by rw [List.length_take]; omega
      have hg : ∀ j, j < len → (zs.take len).getD j 0 = zs.getD j 0 := fun j hj => by simp [List.getD, hj]
      refine ⟨zs.take len, .inr ⟨b, off, cap, ?_, by omega, hbW, fun j hj => ?_⟩⟩
      · rw [hlen]
        cases v <;> simp_all [Value.cells]
      · rw [hlen] at hj
        rw [← add_plain, hcell j (by omega), hg j hj]
        have hmem : zs.getD j 0 ∈ zs := by
          rw [List.getD, List.getElem?_eq_getElem (by omega)]
          exact List.getElem_mem (by omega)
        have hw := hwz _ hmem
        refine ⟨rfl, ?_⟩
        have hk : IntKind.u8.min ≤ zs.getD j 0 ∧ zs.getD j 0 ≤ IntKind.u8.max := by simpa [Lit.wf] using hw
        exact hk

set_option maxRecDepth 100000 in
theorem long_any (v u : Value) (xs ys : List Int) (w : World) (hv : Bytes w v xs) (hu : Bytes w u ys) :
    Calls Tryd.prog 4 #[v, u] w fun e w' => e = .returned (.bool (decide (3000 < xs.length) || decide (3000 < ys.length))) ∧ w = w' := by
  obtain ⟨a1, c1, rfl⟩ := hv.len
  obtain ⟨a2, c2, rfl⟩ := hu.len
  clear hv hu
  by_cases h1 : 3000 < xs.length
  · have h1' : (3000 : Int) < (xs.length : Int) := by omega
    go_enter Tryd.func4, Tryd.ntmps4
    go_wp2
    go_ret
    exact ⟨ret_bool (by simp [h1]), rfl⟩
  · have h1' : ¬ (3000 : Int) < (xs.length : Int) := by omega
    go_enter Tryd.func4, Tryd.ntmps4
    go_wp2
    go_ret
    exact ⟨ret_bool (by
      by_cases h2 : 3000 < ys.length
      · rw [decide_eq_true h2]; exact decide_eq_true (by omega)
      · rw [decide_eq_false h2]; exact decide_eq_false (by omega)), rfl⟩

set_option linter.unusedVariables false in
set_option maxRecDepth 100000 in
set_option maxHeartbeats 2000000 in
theorem a2At_any (v : Value) (bs : List Int) (i n : Int) (w : World) (hb : Bytes w v bs) (hn : bs.length ≤ 3000) (hi : 0 ≤ i) (hi' : i ≤ 100) (h1 : 1 ≤ n) (h1' : n ≤ 1000000) :
    Calls Tryd.prog 5 #[v, .int .i64 i, .int .i64 n] w fun e w' => ∃ r : Int, e = .returned (.int .i64 r) ∧ 0 ≤ r ∧ r < n ∧ Below w.heap.size w w' := by
  obtain ⟨a, rfl⟩ := Int.eq_ofNat_of_zero_le hi
  by_cases h : a < bs.length
  · rcases hb with ⟨_, _, _, hz⟩ | ⟨b, off, cap, rfl, hp, hbl, hc⟩
    · rw [hz] at h; simp at h
    · obtain ⟨hca, hr0, hr1⟩ := hc a h
      have hab : (a : Int) < (bs.length : Int) := by omega
      obtain ⟨z, hzz⟩ : ∃ z, z = bs.getD a 0 := ⟨_, rfl⟩
      rw [← hzz] at hca hr0 hr1
      have hm := Int.emod_lt_of_pos z (show 0 < n by omega)
      have hm0 := Int.emod_nonneg z (show n ≠ 0 by omega)
      have hmt : z.tmod n = z % n := Int.tmod_eq_emod_of_nonneg hr0
      clear hc hzz
      go_enter Tryd.func5, Tryd.ntmps5
      go_wp2_with fail
      go_ret
      exact ⟨_, rfl, by first | exact hm0 | (rw [hmt]; exact hm0), by first | exact hm | (rw [hmt]; exact hm), Below.refl _ _⟩
  · obtain ⟨a1, c1, rfl⟩ := hb.len
    have hab : ¬ ((a : Int) < (bs.length : Int)) := by omega
    go_enter Tryd.func5, Tryd.ntmps5
    go_wp2_with fail
    go_ret
    exact ⟨0, rfl, by omega, by omega, Below.refl _ _⟩

set_option maxRecDepth 100000 in
set_option maxHeartbeats 1000000 in
theorem l00Same_any (a b : Value) (xs ys : List Int) (w : World) (ha : Ints w a xs) (hb : Ints w b ys) (hn : xs.length ≤ 2097152) (hn' : ys.length ≤ 2097152) :
    Calls Tryd.prog 23 #[a, b] w fun e w' => e = .returned (.bool (decide (xs = ys))) ∧ Below w.heap.size w w' := by
  by_cases hl : xs.length = ys.length
  · by_cases h0 : xs.length = 0
    · have hx : xs = [] := List.length_eq_zero_iff.1 h0
      have hy : ys = [] := List.length_eq_zero_iff.1 (by omega)
      subst hx
      subst hy
      obtain ⟨a1, c1, rfl⟩ := ha.nil
      obtain ⟨a2, c2, rfl⟩ := hb.nil
      clear ha hb hl h0 hn hn'
      go_enter Tryd.func23, Tryd.ntmps23
      go_wp2
      go_rounds 1
      go_ret
      exact ⟨rfl, Below.refl _ _⟩
    · obtain ⟨b1, o1, c1, rfl, hc1⟩ := ha.pos (by omega)
      obtain ⟨b2, o2, c2, rfl, hc2⟩ := hb.pos (by omega)
      clear ha hb
      have HE := Lib.hid (@eq_of_all xs ys hl)
      rw [← hl] at hc2 hn' ⊢
      obtain ⟨r, hr⟩ : ∃ r, r = decide (xs = ys) := ⟨_, rfl⟩
      rw [← hr]
      have HR := Lib.hid hr
      clear hr
      obtain ⟨n, hln⟩ : ∃ n, n = xs.length := ⟨_, rfl⟩
      have HL := Lib.hid hln
      rw [← hln] at hc1 hc2 hn h0 HE ⊢
      clear hln hl hn' HL
      have H1 := Lib.hid hc1
      have H2 := Lib.hid hc2
      clear hc1 hc2
      go_enter Tryd.func23, Tryd.ntmps23
      go_wp2
      go_loopw [5] (fun i wr => ∃ k : Nat, k ≤ n ∧ i = .int .i64 k ∧ Hid (∀ j, j < k → xs.getD j 0 = ys.getD j 0) ∧ ∃ nd, wr = w.drewN nd) (fun i _ => n - (intOf i).toNat)
      case atStart => exact ⟨0, Nat.zero_le _, rfl, fun j hj => by omega, 0, rfl⟩
      case round =>
        obtain ⟨k, hk, rfl, hS, nd, rfl⟩ := hrel
        by_cases hlt : k < n
        · have c1 : w.cell? ⟨b1, o1 + k, none⟩ = some (.int .i64 (xs.getD k 0)) := H1.out k hlt
          have c2 : w.cell? ⟨b2, o2 + k, none⟩ = some (.int .i64 (ys.getD k 0)) := H2.out k hlt
          obtain ⟨xk, hxk⟩ : ∃ xk, xk = xs.getD k 0 := ⟨_, rfl⟩
          obtain ⟨yk, hyk⟩ : ∃ yk, yk = ys.getD k 0 := ⟨_, rfl⟩
          rw [← hxk] at c1
          rw [← hyk] at c2
          by_cases he : xk = yk
          · have hne : (xk != yk) = false := by simp [he]
            have HE2 := Lib.hid (hxk.symm.trans (he.trans hyk))
            clear hxk hyk he
            go_wp2
            go_region
            all_goals
              go_wp2
              go_roundw
              case rel =>
                refine ⟨k + 1, by omega, by go_num, fun j hj => ?_, nd + 1, rfl⟩
                by_cases hjk : j = k
                · subst hjk
                  exact HE2.out
                · exact hS.out j (by omega)
              case measure => simp [intOf]; omega
          · have hne : (xk != yk) = true := by rw [bne_iff_ne]; exact he
            have HE2 : Hid (r = false) := by
              rw [HR.out]
              refine decide_eq_false fun h => he ?_
              rw [hxk, hyk, h]
            clear hxk hyk
            go_wp2
            go_region
            all_goals
              go_wp2
              go_ret
              exact ⟨ret_bool HE2.out.symm, bdN _ _⟩
        · have hkn : k = n := by omega
          subst hkn
          have HE2 : Hid (r = true) := by
            rw [HR.out]
            exact decide_eq_true (HE.out hS.out)
          go_wp2
          go_ret
          exact ⟨ret_bool HE2.out.symm, bdN _ _⟩
  · obtain ⟨a1, c1, rfl⟩ := ha.len
    obtain ⟨a2, c2, rfl⟩ := hb.len
    have hne : decide (xs = ys) = false := decide_eq_false fun e => hl (by rw [e])
    rw [hne]
    clear ha hb hne
    have hbn : ((xs.length : Int) != (ys.length : Int)) = true := by rw [bne_iff_ne]; omega
    go_enter Tryd.func23, Tryd.ntmps23
    go_wp2
    go_ret
    exact ⟨rfl, Below.refl _ _⟩

set_option maxRecDepth 100000 in
theorem a2Same_any (a b : Value) (xs : List Int) (w : World) (ha : Ints w a xs) (hb : Ints w b xs) (hn : xs.length ≤ 2097152) :
    Calls Tryd.prog 13 #[a, b] w fun e w' => e = .returned (.bool true) ∧ Below w.heap.size w w' := by
  have H := Lib.hid (l00Same_any a b xs xs w ha hb hn hn)
  have hd : decide (xs = xs) = true := by simp
  rw [hd] at H
  clear hd ha hb
  go_enter Tryd.func13, Tryd.ntmps13
  go_wp2_with fail
  refine H.out.mono ?_
  rintro e w1 ⟨rfl, hB⟩
  have HB := Lib.hid hB
  clear hB
  go_wp2_with fail
  go_ret
  exact ⟨rfl, HB.out⟩
theorem Ints.at {w : World} {b o n c : Nat} {zs : List Int} (h : Ints w (.slice (some ⟨b, o, none⟩) n c) zs) (j : Nat) (hj : j < zs.length) : w.cell? ⟨b, o + j, none⟩ = some (.int .i64 (zs.getD j 0)) := by
  rcases h with ⟨a, cap, e, rfl⟩ | ⟨b', off, cap, e, h0, hb, hc⟩
  · simp at hj
  · simp only [Value.slice.injEq, Option.some.injEq, Addr.mk.injEq] at e
    obtain ⟨⟨rfl, rfl, _⟩, _⟩ := e
    exact hc j hj
theorem Ints.addr {w : World} {a : Option Addr} {n c : Nat} {zs : List Int} (h : Ints w (.slice a n c) zs) (h0 : 0 < zs.length) : ∃ b o, a = some ⟨b, o, none⟩ := by
  rcases h with ⟨a, cap, e, rfl⟩ | ⟨b', off, cap, e, h0, hb, hc⟩
  · simp at h0
  · simp only [Value.slice.injEq] at e
    exact ⟨_, _, e.1⟩

end Go.Proofs.YtcefdmdidakilaaDoor
