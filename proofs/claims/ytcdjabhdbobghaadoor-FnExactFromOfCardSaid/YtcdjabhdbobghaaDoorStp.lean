/-
  No statement is proved here: the stitches of a row as the program lists them, and whether a run of places has one; condition: rows of at most 1048576 bytes.
-/
import Derived.Test.YtcdjabhdbobghaaDoorGoM
import Derived.Test.YtcdjabhdbobghaaDoorKnitP
import Derived.Test.YtcdjabhdbobghaaDoorRec
import Derived.BigQuiet
namespace Go.Proofs.YtcdjabhdbobghaaDoor
open Go.ChangeShapes Go.WideShapes Go.ChangeAt Go.RowKit

/-- The cells of the first k steps of a row. -/
def stepC (s : ByteArray) : Nat → List Value
  | 0 => []
  | k + 1 => stepC s k ++ [.int .i64 (sumB tk s k), .int .i64 (tk (chAt s k)), .int .i64 (sumB mk s k), .int .i64 (mk (chAt s k))]
theorem stepC_length (s : ByteArray) : ∀ k, (stepC s k).length = k * 4
  | 0 => rfl
  | k + 1 => by rw [stepC, List.length_append, stepC_length s k]; simp; omega
theorem stepC_old (s : ByteArray) (k i : Nat) (h : i < k * 4) : (stepC s (k + 1))[i]? = (stepC s k)[i]? := by
  rw [stepC, List.getElem?_append_left (by rw [stepC_length]; exact h)]
theorem stepC_get (s : ByteArray) : ∀ (n k : Nat), k < n → (stepC s n)[k * 4]? = some (.int .i64 (sumB tk s k)) ∧ (stepC s n)[k * 4 + 1]? = some (.int .i64 (tk (chAt s k))) ∧ (stepC s n)[k * 4 + 2]? = some (.int .i64 (sumB mk s k)) ∧ (stepC s n)[k * 4 + 3]? = some (.int .i64 (mk (chAt s k)))
  | 0, k, h => absurd h (Nat.not_lt_zero k)
  | n + 1, k, h => by
    by_cases e : k = n
    · subst e
      have hl := stepC_length s k
      rw [stepC]
      refine ⟨?_, ?_, ?_, ?_⟩ <;> rw [List.getElem?_append_right (by omega), hl] <;> simp
    · have ih := stepC_get s n k (by omega)
      rw [stepC_old s n _ (by omega), stepC_old s n _ (by omega), stepC_old s n _ (by omega), stepC_old s n _ (by omega)]
      exact ih
/-- A list of steps that the call has made, from block B on. -/
def OwnSt (w : World) (B : Nat) (v : Value) (s : ByteArray) (n : Nat) : Prop := w.ownsRow B 62 4 v n (stepC s n)
theorem infoStep : (Tryd.prog.info? 62).map (fun i => (i.zero, i.size, i.bytes)) = some (some (.agg #[.int .i64 0, .int .i64 0, .int .i64 0, .int .i64 0]), 4, 32) := by kernel_rfl
theorem one_step (a b c d : Int) : ∀ u ∈ [Value.int .i64 a, .int .i64 b, .int .i64 c, .int .i64 d], u.oneCell' = true := by intro u hu; simp at hu; rcases hu with rfl | rfl | rfl | rfl <;> rfl
theorem IW.grown {w wr w' : World} {b r : Nat} {s : ByteArray} {k : Nat} {row : Option Nat} (h : IW w wr b r s k) (hg : wr.grownBy w' row) (hne : ∀ j, row = some j → r < j) : IW w w' b r s k := by
  obtain ⟨h1, h2, h3, h4, h5, h6⟩ := h
  have hs := hg.size
  refine ⟨(hg.block b (by omega) (fun e => by have := hne b e.symm; omega)).trans h1, (hg.block r h6 (fun e => by have := hne r e.symm; omega)).trans h2, h3.grown hg h3.size (fun j hj => by have := hne j hj; omega), h4, h5, by omega⟩

set_option maxRecDepth 100000 in
theorem spanHas_any (f n a : Int) (w : World) (hf : 0 ≤ f ∧ f ≤ 1000000000) (hn : 0 ≤ n ∧ n ≤ 1000000000) (ha : -1000000000 ≤ a ∧ a ≤ 1000000000) :
    Calls Tryd.prog 28 #[.agg #[.int .i64 f, .int .i64 n], .int .i64 a] w fun e w' => e = .returned (.bool (decide (f ≤ a) && decide (a < f + n))) ∧ w.alloc (.cells #[.int .i64 f, .int .i64 n] 60) = w' := by
  obtain ⟨hf1, hf2⟩ := hf
  obtain ⟨hn1, hn2⟩ := hn
  obtain ⟨ha1, ha2⟩ := ha
  by_cases h1 : f ≤ a
  · by_cases h2 : a < f + n
    · rw [show (decide (f ≤ a) && decide (a < f + n)) = true by simp [h1, h2]]
      go_enter Tryd.func28, Tryd.ntmps28
      go_wp2_with fail
      go_ret
      exact ⟨rfl, rfl⟩
    · rw [show (decide (f ≤ a) && decide (a < f + n)) = false by simp [h2]]
      go_enter Tryd.func28, Tryd.ntmps28
      go_wp2_with fail
      go_ret
      exact ⟨rfl, rfl⟩
  · rw [show (decide (f ≤ a) && decide (a < f + n)) = false by simp [h1]]
    go_enter Tryd.func28, Tryd.ntmps28
    go_wp2_with fail
    go_ret
    exact ⟨rfl, rfl⟩

set_option maxRecDepth 100000 in
set_option maxHeartbeats 4000000 in
theorem stepsNo_any (c : Int) (ra wa : Option Addr) (rc m wc n : Nat) (row : Int) (w : World) (h : row = 0 ∨ (n : Int) < row) :
    Calls Tryd.prog 27 #[.agg #[.int .i64 c, .slice ra n rc, .slice wa m wc], .int .i64 row] w fun e w' => e = .returned (.slice none 0 0) ∧ Below w.heap.size w w' := by
  by_cases h0 : row = 0
  · subst h0
    go_enter Tryd.func27, Tryd.ntmps27
    go_wp2_with fail
    first | (go_quiet (fail); go_wp2_with fail) | skip
    go_ret
    exact ⟨rfl, by go_grown⟩
  · have h1 : (n : Int) < row := by omega
    have hne : (row == 0) = false := by rw [beq_eq_false_iff_ne]; exact h0
    clear h
    go_enter Tryd.func27, Tryd.ntmps27
    go_wp2_with fail
    first | (go_quiet (fail); go_wp2_with fail) | skip
    go_ret
    exact ⟨rfl, by go_grown⟩

theorem alloc2_new (w : World) (o o' : Obj) : ((w.alloc o).alloc o').heap[w.heap.size + 1]? = some o' := by
  have h := heap_alloc_new (w.alloc o) o'
  rwa [World.size_alloc] at h
theorem step_mono {w : World} {B C n : Nat} {v : Value} {s : ByteArray} (h : OwnSt w C v s n) (hB : B ≤ C) : OwnSt w B v s n := by
  refine ⟨h.1, ?_⟩
  rcases h.2 with h2 | ⟨g, cap, cur, hv, hg, r⟩
  · exact .inl h2
  · exact .inr ⟨g, cap, cur, hv, by omega, r⟩
theorem step_iter {w w' : World} {r n : Nat} {v : Value} {s : ByteArray} (h : OwnSt w (r + 1) v s n) (hB : ∀ g : Nat, g ≠ r → w'.heap[g]? = w.heap[g]?) : OwnSt w' (r + 1) v s n := by
  refine ⟨h.1, ?_⟩
  rcases h.2 with h2 | ⟨g, cap, cur, hv, hg, hh, r⟩
  · exact .inl h2
  · exact .inr ⟨g, cap, cur, hv, hg, by rw [hB g (by omega)]; exact hh, r⟩
/-- The next letter, if it is a stitch, and what else lies in memory. -/
theorem IW.next2 {w wr : World} {b r : Nat} {s : ByteArray} {k : Nat} (h : IW w wr b r s k) (hk : k < s.size) (hs : isSt (chAt s k) = true) :
    ∃ w2, (∀ ty, (Instr.next (.pointer (some ⟨r, 0, none⟩)) true ty).run Tryd.prog wr = .ok (.tuple #[.bool true, .int .i64 k, .int .i32 (chAt s k : Nat)]) w2) ∧ IW w w2 b r s (k + 1) ∧ ∀ g : Nat, g ≠ r → w2.heap[g]? = wr.heap[g]? := by
  have ha : (s[k]'hk).toNat < 128 := by
    rw [chAt_get]
    rcases isSt_cases hs with e | e | e | e | e <;> omega
  have hd := decode_ascii s k hk ha
  refine ⟨wr.iterAt r s (k + 1), fun ty => ?_, ?_, fun g hg => Go.Lib.iterAt_other wr r g s _ (by omega)⟩
  · rw [Go.Lib.run_next_any_at wr r s k ty h.2.1 hk, hd, chAt_get]
  · obtain ⟨h1, h2, h3, h4, h5, h6⟩ := h
    exact ⟨(Go.Lib.iterAt_other wr r b s _ (by omega)).trans h1, Go.Lib.iterAt_heap wr r s k _ h2, Go.Lib.below_iterAt h3 (by omega) s _, h4, h5, by rw [Go.Lib.iterAt_size]; exact h6⟩
theorem kept_step {w w' : World} {B n : Nat} {v : Value} {s : ByteArray} (h : OwnSt w B v s n) (hB : Below w.heap.size w w') : OwnSt w' B v s n := by
  refine ⟨h.1, ?_⟩
  rcases h.2 with h2 | ⟨g, cap, cur, hv, hg, hh, r⟩
  · exact .inl h2
  · exact .inr ⟨g, cap, cur, hv, hg, by rw [hB.block g (lt_of_block hh)]; exact hh, r⟩

set_option maxRecDepth 100000 in
set_option maxHeartbeats 8000000 in
theorem stepsYes_any (c : Int) (ra wa : Option Addr) (rc m wc n : Nat) (L : List ByteArray) (R : Nat) (row : Int) (w : World) (h : Strs w (.slice ra n rc) L) (hL : n = L.length) (hn : n ≤ 30) (hR : R < n) (hrow : row = (R : Int) + 1) (hst : allSt (rowAt L R) = true) (hs : (rowAt L R).size ≤ 120) :
    Calls Tryd.prog 27 #[.agg #[.int .i64 c, .slice ra n rc, .slice wa m wc], .int .i64 row] w fun e w' => ∃ x, e = .returned x ∧ OwnSt w' w.heap.size x (rowAt L R) (rowAt L R).size ∧ Below w.heap.size w w' := by
  obtain ⟨i0, hi, hz0, hz1, hz2⟩ := info_parts infoStep
  obtain ⟨b0, off, rfl, hb0, hcell⟩ : ∃ b off, ra = some ⟨b, off, none⟩ ∧ b < w.heap.size ∧ w.cell? ⟨b, off + R, none⟩ = some (.string (rowAt L R)) := by
    rcases h with ⟨a, cap, e, e2⟩ | ⟨b, o, cap, e, h0, hb, hc⟩
    · subst e2; simp at hL; omega
    · cases e
      exact ⟨b, o, rfl, hb, hc R (by omega)⟩
  have HA := Lib.hid fun k (hk : k < (rowAt L R).size) => allK_get hst hk
  have HB := Lib.hid fun k (hk : k ≤ (rowAt L R).size) => takes_bd (s := rowAt L R) (k := k) fun j hj => allK_get hst (by omega)
  have HM := Lib.hid fun k => makes_bd (rowAt L R) k
  have HSC := Lib.hid fun k => show stepC (rowAt L R) (k + 1) = stepC (rowAt L R) k ++ [.int .i64 (sumB tk (rowAt L R) k), .int .i64 (tk (chAt (rowAt L R) k)), .int .i64 (sumB mk (rowAt L R) k), .int .i64 (mk (chAt (rowAt L R) k))] from rfl
  have HT1 := Lib.hid fun k => show sumB tk (rowAt L R) (k + 1) = sumB tk (rowAt L R) k + tk (chAt (rowAt L R) k) from rfl
  have HT2 := Lib.hid fun k => show sumB mk (rowAt L R) (k + 1) = sumB mk (rowAt L R) k + mk (chAt (rowAt L R) k) from rfl
  have HL := Lib.hid fun k => stepC_length (rowAt L R) k
  subst hrow
  have hne : ((R : Int) + 1 == 0) = false := by rw [beq_eq_false_iff_ne]; omega
  have hgt : decide ((n : Int) < (R : Int) + 1) = false := by rw [decide_eq_false_iff_not]; omega
  have hsub : (R : Int) + 1 - 1 = (R : Int) := by omega
  have W0B : Hid (Below w.heap.size w (w.alloc (.cells #[.int .i64 c, .slice (some ⟨b0, off, none⟩) n rc, .slice wa m wc] 53))) := (Below.refl w.heap.size w).alloc (Nat.le_refl _) _
  obtain ⟨W0, hW0⟩ : ∃ W0, W0 = w.alloc (.cells #[.int .i64 c, .slice (some ⟨b0, off, none⟩) n rc, .slice wa m wc] 53) := ⟨_, rfl⟩
  have p1 : W0.cell? ⟨w.heap.size, 1, none⟩ = some (.slice (some ⟨b0, off, none⟩) n rc) := by rw [hW0]; simp [go_sem]
  have HP1 := Lib.hid p1
  have HWZ := Lib.hid (show w.heap.size < W0.heap.size by rw [hW0]; simp)
  rw [← hW0] at W0B
  have HW0 := Lib.hid hW0
  have HCE := Lib.hid (kept W0B.out hb0 hcell)
  generalize rowAt L R = s at *
  have hsz : (s.size : Int) ≤ 120 := by omega
  obtain ⟨sn, hsn⟩ : ∃ sn, sn = s.size := ⟨_, rfl⟩
  have HSN := Lib.hid hsn
  rw [← hsn] at HA HB hs hsz ⊢
  clear hsn hcell hW0 hst h hL
  go_enter Tryd.func27, Tryd.ntmps27
  go_wp2_with fail
  first | rw [← HW0.out] | skip
  refine (stitches_any _).mono ?_
  rintro e w1 ⟨b, rfl, hm, hB, hb⟩
  have T1 := Lib.hid (W0B.out.trans (hB.mono W0B.out.size))
  have p1 := kept hB HWZ.out HP1.out
  have c1 := kept hB (Nat.lt_of_lt_of_le hb0 W0B.out.size) HCE.out
  have HMB := Lib.hid hm
  have HBW := Lib.hid hb
  have H0 := Lib.hid (IW.start (s := s) hm T1.out (Nat.le_trans (Nat.le_of_lt HWZ.out) (Nat.le_trans hb (Nat.le_refl _)) |> fun h => Nat.le_trans (Nat.le_succ_of_le (Nat.le_refl _)) (Nat.succ_le_of_lt (Nat.lt_of_lt_of_le HWZ.out hb))))
  clear hB hm hb
  go_wp2_with fail
  generalize w1.iter s 0 = w2 at *
  obtain ⟨r, hr⟩ : ∃ r, r = w1.heap.size := ⟨_, rfl⟩
  have HRZ := Lib.hid (show w.heap.size ≤ r + 1 by have := T1.out.size; omega)
  rw [← hr] at H0 ⊢
  clear hr p1 c1
  go_loopw [5, 6, 7] (fun sv t m wr => ∃ (k : Nat) (x : Value), k ≤ sn ∧ x = sv ∧ t = .int .i64 (sumB tk s k) ∧ m = .int .i64 (sumB mk s k) ∧ Hid (IW w wr b r s k) ∧ Hid (OwnSt wr (r + 1) x s k)) (fun _ _ _ wr => sn - wr.iterPos r)
  case atStart => exact ⟨0, _, Nat.zero_le _, rfl, rfl, rfl, H0, World.ownsRow_nil _ _ _ _⟩
  case round =>
    clear H0
    obtain ⟨k, x5, hk, rfl, rfl, rfl, hI, hO⟩ := hrel
    obtain ⟨sa, sc, rfl⟩ : ∃ sa sc, x5 = .slice sa k sc := by
      rcases hO.out.2 with ⟨e, hh⟩ | ⟨g', cap', cur, e, hb', hg', hle, _⟩
      · exact ⟨none, 0, by rw [e]; simp; omega⟩
      · exact ⟨_, _, e⟩
    by_cases hlt : k < sn
    · as_aux_lemma =>
      have hst := HA.out k hlt
      obtain ⟨w3, hnx, hI2, hgr3⟩ := hI.out.next2 (by rw [← HSN.out]; exact hlt) hst
      have hlk := (hI2.look hst).2
      have hps := Lib.hid hI.out.pos
      have htb := HB.out k hk
      have hmb := HM.out k
      have hxb := tk_bd hst
      have hyb := mk_bd (chAt s k)
      have HT3 := Lib.hid (HT1.out k)
      have HT4 := Lib.hid (HT2.out k)
      have HSC2 := Lib.hid (HSC.out k)
      have HL2 := Lib.hid (HL.out k)
      have I4 := Lib.hid (hI2.alloc (.cells #[.int .i64 (tk (chAt s k)), .int .i64 (mk (chAt s k)), .int .i64 (nd (chAt s k))] 83))
      have hrz : r < w3.heap.size := hI2.2.2.2.2.2
      have OW := Lib.hid (show OwnSt (w3.alloc (.cells #[.int .i64 (tk (chAt s k)), .int .i64 (mk (chAt s k)), .int .i64 (nd (chAt s k))] 83)) (r + 1) (.slice sa k sc) s k from kept_step (step_iter hO.out hgr3) ((Below.refl w3.heap.size w3).alloc (Nat.le_refl _) _))
      have NE := Lib.hid (show some w3.heap.size ≠ (Value.slice sa k sc).ownBlock from fun e => by
        have := (World.ownsRow.lt (step_iter hO.out hgr3) _ e.symm).2
        omega)
      have NR := Lib.hid (show ∀ j, (Value.slice sa k sc).ownBlock = some j → r < j from fun j e => by
        have := (World.ownsRow.lt hO.out _ e).1
        omega)
      have C0 : Hid ((w3.alloc (.cells #[.int .i64 (tk (chAt s k)), .int .i64 (mk (chAt s k)), .int .i64 (nd (chAt s k))] 83)).cell? ⟨w3.heap.size, 0, none⟩ = some (.int .i64 (tk (chAt s k)))) := Lib.hid (by simp [go_sem])
      have C1 : Hid ((w3.alloc (.cells #[.int .i64 (tk (chAt s k)), .int .i64 (mk (chAt s k)), .int .i64 (nd (chAt s k))] 83)).cell? ⟨w3.heap.size, 1, none⟩ = some (.int .i64 (mk (chAt s k)))) := Lib.hid (by simp [go_sem])
      clear hI hI2 hst hO hgr3
      unfold stv at hlk
      generalize chAt s k = x at *
      generalize tk x = xt at *
      generalize mk x = xm at *
      generalize nd x = xn at *
      generalize sumB tk s k = t at *
      generalize sumB mk s k = m at *
      have hkb : (k : Int) ≤ 120 := by omega
      obtain ⟨htb1, htb2⟩ := htb
      obtain ⟨hmb1, hmb2⟩ := hmb
      obtain ⟨hxb1, hxb2⟩ := hxb
      obtain ⟨hyb1, hyb2⟩ := hyb
      have htb3 : t ≤ 240 := by omega
      have hmb3 : m ≤ 240 := by omega
      clear htb2 hmb2
      have HKN := Lib.hid (show k < sn from hlt)
      go_wp2_with (first
        | (at_builtin; (refine wpList_append_lies _ rfl _ _ _ rfl (r + 1) 62 i0 (.agg #[.int .i64 0, .int .i64 0, .int .i64 0, .int .i64 0]) 4 32 Tryd.underlying57 hi hz0 hz1 hz2 rfl (by omega) (.slice sa k sc) k _ rfl (OW.out.alloc _) ⟨w3.heap.size + 1, 0, none⟩ 1 1 [.int .i64 t, .int .i64 xt, .int .i64 m, .int .i64 xm] rfl rfl (World.news_of_block (alloc2_new _ _ _)) (one_step _ _ _ _) (by omega) (by unfold maxLen; omega) (by omega) (by simp; omega) (w3.heap.size + 1 + 1) (by simp) ?_; intro g1 cap1 w5 hown hgrow hat hlt2; have m0 := ((grown_al hgrow).cell_far ⟨w3.heap.size, 0, none⟩ (by simp) NE.out).trans C0.out; have m1 := ((grown_al hgrow).cell_far ⟨w3.heap.size, 1, none⟩ (by simp) NE.out).trans C1.out))
        | fail)
      have O5 : Hid (OwnSt w5 (r + 1) (.slice (some ⟨g1, 0, none⟩) (k + 1 : Nat) cap1) s (k + 1)) := by
        show World.ownsRow _ _ _ _ _ _ _
        rw [HSC2.out]
        exact hown
      have I5 := Lib.hid (I4.out.grown (grown_al hgrow) NR.out)
      clear hown hgrow hat hlt2 OW I4
      go_wp2
      go_roundw
      case rel => exact ⟨k + 1, _, by omega, rfl, by rw [HT3.out], by rw [HT4.out], I5, O5⟩
      case measure =>
        rw [I5.out.pos, hps.out]
        omega
    · as_aux_lemma =>
      have hkn : k = sn := by omega
      have hnx := hI.out.stop (by rw [← HSN.out]; exact hlt)
      subst hkn
      go_wp2
      go_ret
      exact ⟨_, rfl, step_mono hO.out HRZ.out, hI.out.2.2.1⟩
end Go.Proofs.YtcdjabhdbobghaaDoor
