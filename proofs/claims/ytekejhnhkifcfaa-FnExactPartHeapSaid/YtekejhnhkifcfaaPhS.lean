/-
  No statement is proved here: PartHeap in the document's own text; condition: numbers that are int32s.
-/
import Derived.Test.YtekejhnhkifcfaaPhM
import Derived.Deep.AppendLies
import Derived.Deep.Onto
namespace Go.Proofs.Ytekejhnhkifcfaa
open Go.ChangeShapes Go.WideShapes Go.ChangeAt Go.RowKit

theorem hp_one (f : Nat → Int) : ∀ u ∈ [Value.int .i32 (f 0), .int .i32 (f 1), .int .i32 (f 2), .int .i32 (f 3), .int .i32 (f 4), .int .i32 (f 5), .int .i32 (f 6), .int .i32 (f 7)], u.oneCell' = true := by
  intro u hu
  simp only [List.mem_cons, List.not_mem_nil, or_false] at hu
  rcases hu with rfl | rfl | rfl | rfl | rfl | rfl | rfl | rfl <;> rfl
theorem rowH_below {w w' : World} {base : Nat} {T : TypeId} {m n : Nat} {v : Value} {xs : List Value} (h : w.ownsRow base T m v n xs) (hB : Below w.heap.size w w') : w'.ownsRow base T m v n xs := by
  refine ⟨h.1, ?_⟩
  rcases h.2 with h2 | ⟨g, cap, cur, hv, hg, hh, r⟩
  · exact .inl h2
  · exact .inr ⟨g, cap, cur, hv, hg, by rw [hB.block g (lt_of_block hh)]; exact hh, r⟩
theorem fillH_zero (w : World) (f : Nat → Int) (T : TypeId) : HeapAt (w.alloc (.cells #[.int .i32 0, .int .i32 0, .int .i32 0, .int .i32 0, .int .i32 0, .int .i32 0, .int .i32 0, .int .i32 0] T)) w.heap.size 0 (fillH f 0) := fun k hk => by
  have h := heapAt_alloc w 0 0 0 0 0 0 0 0 T k hk
  have e : z8 0 0 0 0 0 0 0 0 k = fillH f 0 k := by
    unfold z8 fillH
    rw [if_neg (by omega)]
    split <;> rfl
  rw [e] at h
  exact h
theorem fillH_other (f : Nat → Int) (j : Nat) : ∀ k, k < 8 → k ≠ j → fillH f j k = fillH f (j + 1) k := fun k _ h => by
  unfold fillH
  by_cases h2 : k < j
  · rw [if_pos h2, if_pos (by omega)]
  · rw [if_neg h2, if_neg (by omega)]
theorem fillH_new (f : Nat → Int) (j : Nat) : fillH f (j + 1) j = f j := if_pos (by omega)
theorem fillH_all (f : Nat → Int) {k : Nat} (hk : k < 8) : fillH f 8 k = f k := if_pos hk
/-- The heap's box, the parts so far, and the new part's box. -/
def PhB (w W0 W : World) (z : Nat → Int) (v : Value) (L : List (Nat → Int)) : Prop := HeapAt W w.heap.size 0 z ∧ OwnHp W (w.heap.size + 1) v L ∧ Below (w.heap.size + 1) W0 W ∧ w.heap.size + 1 < W.heap.size
def PhC (w W0 W : World) (z : Nat → Int) (v : Value) (L : List (Nat → Int)) (B : Nat) (f : Nat → Int) : Prop := PhB w W0 W z v L ∧ HeapAt W B 0 f ∧ (∀ o : Nat, o < 8 → W.frozen? ⟨B, o, none⟩ = false) ∧ (∀ k, v.ownBlock = some k → k < B) ∧ w.heap.size + 1 < B
theorem PhC.made {w W0 W : World} {z : Nat → Int} {v : Value} {L : List (Nat → Int)} (h : PhB w W0 W z v L) (f : Nat → Int) (T : TypeId) : PhC w W0 (W.alloc (.cells #[.int .i32 0, .int .i32 0, .int .i32 0, .int .i32 0, .int .i32 0, .int .i32 0, .int .i32 0, .int .i32 0] T)) z v L W.heap.size (fillH f 0) := by
  obtain ⟨h1, h2, h3, h4⟩ := h
  have A : Below W.heap.size W (W.alloc (.cells #[.int .i32 0, .int .i32 0, .int .i32 0, .int .i32 0, .int .i32 0, .int .i32 0, .int .i32 0, .int .i32 0] T)) := (Below.refl _ _).alloc (Nat.le_refl _) _
  exact ⟨⟨h1.below A h1.lt, h2.below A, h3.trans (A.mono (by omega)), by simp; omega⟩, fillH_zero W f T, fun o _ => by simp [go_sem], fun k hk => (h2.lt k hk).2, h4⟩
theorem PhC.put {w W0 W : World} {z : Nat → Int} {v : Value} {L : List (Nat → Int)} {B : Nat} {f : Nat → Int} {j : Nat} (h : PhC w W0 W z v L B (fillH f j)) (hj : j < 8) {y : Int} (hy : y = f j) : PhC w W0 (W.setCell ⟨B, j, none⟩ (.int .i32 y)) z v L B (fillH f (j + 1)) := by
  obtain ⟨⟨h1, h2, h3, h4⟩, h5, h6, h7, h8⟩ := h
  subst hy
  refine ⟨⟨h1.other (by omega) _, h2.kept (row := some B) ⟨rfl, rfl, rfl, by simp, fun i _ hne => Below.heap_setCell _ _ _ i (fun e => hne (by rw [e]))⟩ ?_, h3.setCell (by show _ ≤ B; omega) _, by simpa using h4⟩, ?_, fun o ho => by rw [World.frozen?_setCell]; exact h6 o ho, h7, h8⟩
  · cases e : v.ownBlock with
    | none => exact .inl rfl
    | some k => exact .inr fun e2 => by have := h7 k e; simp only [Option.some.injEq] at e2; omega
  · have := h5.set1 hj (fillH_other f j)
    rw [fillH_new] at this
    exact this

set_option maxRecDepth 100000 in
set_option maxHeartbeats 4000000 in
theorem specPart_any (x0 x1 x2 x3 x4 x5 x6 x7 h : Int) (w : World) (hz : bd32 (z8 x0 x1 x2 x3 x4 x5 x6 x7)) :
    Calls Try.prog 14 #[.agg #[.int .i32 x0, .int .i32 x1, .int .i32 x2, .int .i32 x3, .int .i32 x4, .int .i32 x5, .int .i32 x6, .int .i32 x7], .int .i64 h] w fun e w' => ∃ u, e = .returned (.tuple #[u, .int .i64 (partF (z8 x0 x1 x2 x3 x4 x5 x6 x7) h).2]) ∧ OwnHp w' w.heap.size u (partF (z8 x0 x1 x2 x3 x4 x5 x6 x7) h).1 ∧ Below w.heap.size w w' := by
  obtain ⟨i0, hi, hz0, hz1, hz2⟩ := info_parts infoHp
  have hbs : ∀ wx : World, (Instr.buildSlice 29 0 #[]).run Try.prog wx = .ok (.slice (some ⟨wx.heap.size, 0, none⟩) 0 0) (wx.alloc (.cells #[] 23)) := fun wx => by kernel_rfl
  obtain ⟨W0, hW0⟩ : ∃ W0, W0 = (w.alloc (.cells #[.int .i32 x0, .int .i32 x1, .int .i32 x2, .int .i32 x3, .int .i32 x4, .int .i32 x5, .int .i32 x6, .int .i32 x7] 23)).alloc (.cells #[] 23) := ⟨_, rfl⟩
  have hA : HeapAt W0 w.heap.size 0 (z8 x0 x1 x2 x3 x4 x5 x6 x7) := hW0 ▸ (heapAt_alloc w x0 x1 x2 x3 x4 x5 x6 x7 23).below ((Below.refl _ _).alloc (Nat.le_refl _) _) (by simp)
  have O0 : OwnHp W0 (w.heap.size + 1) (.slice (some ⟨w.heap.size + 1, 0, none⟩) 0 0) [] := by
    have := World.ownsRow_made (base := w.heap.size + 1) (e := 23) (size := 8) (w.alloc (.cells #[.int .i32 x0, .int .i32 x1, .int .i32 x2, .int .i32 x3, .int .i32 x4, .int .i32 x5, .int .i32 x6, .int .i32 x7] 23)) #[] 0 (by simp) (by decide) rfl
    rw [hW0]
    simpa [cellsHp, OwnHp] using this
  have T0 := Lib.hid (show Below w.heap.size w W0 by rw [hW0]; go_grown)
  have hZ0 : W0.heap.size = w.heap.size + 2 := by rw [hW0]; simp
  have HAS := Lib.hid (asked_any (z8 x0 x1 x2 x3 x4 x5 x6 x7) w.heap.size 0 (fineP h) W0 hA hz)
  have HIN := Lib.hid fun wx => in_any h 1 20 wx
  have HW0 := Lib.hid hW0
  have hm : partF (z8 x0 x1 x2 x3 x4 x5 x6 x7) h = if askC (okH (z8 x0 x1 x2 x3 x4 x5 x6 x7)) (fineP h) = 0 then (partL (z8 x0 x1 x2 x3 x4 x5 x6 x7) h, 0) else ([], askC (okH (z8 x0 x1 x2 x3 x4 x5 x6 x7)) (fineP h)) := rfl
  have O0' := Lib.hid O0
  have HF : Hid (inB h 1 20 = fineP h) := Lib.hid rfl
  clear hW0 O0
  by_cases hc : askC (okH (z8 x0 x1 x2 x3 x4 x5 x6 x7)) (fineP h) = 0
  · rw [if_pos hc] at hm
    rw [hm]
    have hok : okH (z8 x0 x1 x2 x3 x4 x5 x6 x7) = true := by
      cases hb : okH (z8 x0 x1 x2 x3 x4 x5 x6 x7) with
      | true => rfl
      | false => rw [hb] at hc; simp [askC] at hc
    have hfp : fineP h = true := by
      cases hb : fineP h with
      | true => rfl
      | false => rw [hb, hok] at hc; simp [askC] at hc
    have hh := inB_of hfp
    rw [hc] at HAS
    have K0 := Lib.hid (show PhB w W0 W0 (z8 x0 x1 x2 x3 x4 x5 x6 x7) (.slice (some ⟨w.heap.size + 1, 0, none⟩) 0 0) ((partL (z8 x0 x1 x2 x3 x4 x5 x6 x7) h).take 0) from ⟨hA, O0'.out, Below.refl _ _, by omega⟩)
    clear hm hc hz hA hfp
    generalize (z8 x0 x1 x2 x3 x4 x5 x6 x7) = z at *
    have HOK := Lib.hid hok
    obtain ⟨n, hn⟩ : ∃ n : Nat, (n : Int) = h := ⟨h.toNat, by omega⟩
    subst hn
    have HLL := Lib.hid (partL_length z n)
    have HLT := Lib.hid fun k (hk : k < n) => partL_take z (n : Int) (k := k) (by omega)
    have HBD := Lib.hid fun k i (hi : i < 8) => partH_bd hok hh.1 k hi
    have HZB := Lib.hid (okH_of hok)
    clear hok hZ0
    go_enter Try.func14, Try.ntmps14
    go_wp2_with fail
    rw [← HW0.out]
    refine (HIN.out _).mono ?_
    rintro e w1 ⟨rfl, rfl⟩
    rw [HF.out]
    go_wp2_with fail
    refine HAS.out.mono ?_
    rintro e w1 ⟨rfl, rfl⟩
    go_wp2_with fail
    go_loopw [6, 8] (fun u i wr => ∃ (k : Nat) (v : Value), k ≤ n ∧ i = .int .i64 k ∧ v = u ∧ Hid (PhB w W0 wr z v ((partL z n).take k))) (fun _ i _ => n - (intOf i).toNat)
    case atStart => exact ⟨0, _, Nat.zero_le _, rfl, rfl, K0⟩
    case round =>
      clear K0
      obtain ⟨k, v, hk, rfl, rfl, hK⟩ := hrel
      by_cases hlt : k < n
      · obtain ⟨va, vc, rfl⟩ : ∃ va vc, v = .slice va (k : Nat) vc := by
          obtain ⟨va, vc, e⟩ := hK.out.2.1.rel.len
          rw [List.length_take, HLL.out, Nat.min_eq_left (by omega)] at e
          exact ⟨va, vc, e⟩
        have C0 := Lib.hid (PhC.made hK.out (partH z n k) 23)
        have hkn : (k : Int) < (n : Int) := by omega
        have HTk := Lib.hid (HLT.out k hlt)
        have HL1 := Lib.hid (show ((partL z n).take k).length = k by rw [List.length_take, HLL.out, Nat.min_eq_left (by omega)])
        have HL2 := Lib.hid (show ((partL z n).take (k + 1)).length = k + 1 by rw [List.length_take, HLL.out, Nat.min_eq_left (by omega)])
        have HBk := Lib.hid fun i hi => HBD.out k i hi
        have HDF : Hid (∀ i, partH z n k i = z i / (n : Int) + if (k : Int) < z i % (n : Int) then 1 else 0) := Lib.hid fun _ => rfl
        generalize (partL z n).take k = Lk at *
        generalize partH z n k = f at *
        clear hK
        go_wp2_with fail
        generalize wr.heap.size = B at *
        go_loopw [10] (fun i wr => ∃ j : Nat, j ≤ 8 ∧ i = .int .i64 j ∧ Hid (PhC w W0 wr z (.slice va (k : Nat) vc) Lk B (fillH f j))) (fun i _ => 8 - (intOf i).toNat)
        case atStart => exact ⟨0, Nat.zero_le _, rfl, C0⟩
        case round =>
          clear C0
          obtain ⟨j, hj, rfl, hC⟩ := hrel
          by_cases hj8 : j < 8
          · have c0 : wr.cell? ⟨w.heap.size, j, none⟩ = some (.int .i32 (z j)) := by have := hC.out.1.1 j hj8; rwa [Nat.zero_add] at this
            have c1 : wr.cell? ⟨B, j, none⟩ = some (.int .i32 (fillH f j j)) := by have := hC.out.2.1 j hj8; rwa [Nat.zero_add] at this
            have f1 := hC.out.2.2.1 j hj8
            have hzb := HZB.out j hj8
            have hfb := HBk.out j hj8
            have hdf := HDF.out j
            have HP := Lib.hid fun (y : Int) hy => hC.out.put hj8 (y := y) hy
            obtain ⟨y, hy⟩ : ∃ y, z j = y := ⟨_, rfl⟩
            rw [hy] at c0 hzb hdf
            obtain ⟨fj, hfj⟩ : ∃ fj, f j = fj := ⟨_, rfl⟩
            rw [hfj] at hfb hdf HP
            have q0 : 0 ≤ y / (n : Int) := Int.ediv_nonneg hzb.1 (by omega)
            have q1 : y / (n : Int) ≤ y := Int.ediv_le_self _ hzb.1
            have m0 : 0 ≤ y % (n : Int) := Int.emod_nonneg _ (by omega)
            have m1 : y % (n : Int) < (n : Int) := Int.emod_lt_of_pos _ (by omega)
            have hn0 : ¬ (n : Int) = 0 := by omega
            have hjI : (j : Int) < 8 := by omega
            clear hy hfj
            by_cases hover : (k : Int) < y % (n : Int)
            · rw [if_pos hover] at hdf
              have HP2 := Lib.hid (HP.out (y / (n : Int) + 1) hdf.symm)
              clear hdf HP
              go_wp2_with fail
              go_roundw
              case rel => exact ⟨j + 1, by omega, by go_num, HP2⟩
              case measure => simp [intOf]; omega
            · rw [if_neg hover, Int.add_zero] at hdf
              have HP2 := Lib.hid (HP.out (y / (n : Int)) hdf.symm)
              clear hdf HP
              go_wp2_with fail
              go_roundw
              case rel => exact ⟨j + 1, by omega, by go_num, HP2⟩
              case measure => simp [intOf]; omega
          · obtain rfl : j = 8 := by omega
            have c := fun i (hi : i < 8) => (show wr.cell? ⟨B, i, none⟩ = some (.int .i32 (f i)) by have := hC.out.2.1 i hi; rwa [Nat.zero_add, fillH_all f hi] at this)
            have c0 := c 0 (by omega)
            have c1 := c 1 (by omega)
            have c2 := c 2 (by omega)
            have c3 := c 3 (by omega)
            have c4 := c 4 (by omega)
            have c5 := c 5 (by omega)
            have c6 := c 6 (by omega)
            have c7 := c 7 (by omega)
            have R0 : Hid (wr.ownsRow (w.heap.size + 1) 23 8 (.slice va (k : Nat) vc) k (cellsHp Lk)) := Lib.hid (by
              have h := hC.out.1.2.1.row
              rw [HL1.out] at h
              exact h)
            have HOL := Lib.hid hC.out.1.2.1.lt
            have HSZ := Lib.hid hC.out.1.2.2.2
            clear c hj8 hj
            go_wp2_with (first
              | (at_builtin; refine wpList_append_lies _ rfl _ _ _ rfl (w.heap.size + 1) 23 i0 (.agg #[.int .i32 0, .int .i32 0, .int .i32 0, .int .i32 0, .int .i32 0, .int .i32 0, .int .i32 0, .int .i32 0]) 8 32 Try.underlying29 hi hz0 hz1 hz2 rfl (by omega) (.slice va (k : Nat) vc) k _ rfl (R0.out.alloc _) ⟨wr.heap.size, 0, none⟩ 1 1 [.int .i32 (f 0), .int .i32 (f 1), .int .i32 (f 2), .int .i32 (f 3), .int .i32 (f 4), .int .i32 (f 5), .int .i32 (f 6), .int .i32 (f 7)] rfl rfl (World.news_of_block (heap_alloc_new wr _)) (hp_one f) (by omega) (by unfold maxLen; omega) (by omega) (by simp; have := HSZ.out; omega) (wr.heap.size + 1) (by simp) ?_; intro gg gcap w4 hown hgrow hat hlt2)
              | fail)
            have hg : wr.grownBy w4 (Value.slice va (k : Nat) vc).ownBlock := grown_tr (World.grownBy_alloc wr _ _) hgrow
            have B4 : Below (w.heap.size + 1) wr w4 := (Below.refl _ _).grown hg (Nat.le_of_lt HSZ.out) (fun i e => (HOL.out i e).1)
            have hK4 : Hid (PhB w W0 w4 z (.slice (some ⟨gg, 0, none⟩) (k + 1 : Nat) gcap) ((partL z n).take (k + 1))) := Lib.hid ⟨hC.out.1.1.below B4 (by omega), by
              show World.ownsRow _ _ _ _ _ _ _
              rw [HL2.out, HTk.out, cellsHp_app]
              exact hown, hC.out.1.2.2.1.trans B4, by have := hg.size; have := HSZ.out; omega⟩
            clear hown hgrow hat hlt2 hg B4 c0 c1 c2 c3 c4 c5 c6 c7
            go_wp2_with fail
            go_roundw
            case rel => exact ⟨k + 1, _, by omega, by go_num, rfl, hK4⟩
            case measure => simp [intOf]; omega
      · obtain rfl : k = n := by omega
        have e : (partL z k).take k = partL z k := by rw [List.take_of_length_le (by rw [HLL.out]; omega)]
        go_wp2_with fail
        go_ret2
        have h := hK.out.2.1.row
        rw [e] at h
        exact ⟨_, rfl, World.ownsRow.mono h (by omega), T0.out.trans (hK.out.2.2.1.mono (by omega))⟩
  · rw [if_neg hc] at hm
    rw [hm]
    clear hm hz hA
    generalize askC (okH (z8 x0 x1 x2 x3 x4 x5 x6 x7)) (fineP h) = cc at *
    have hcn : (cc != 0) = true := by simpa using hc
    go_enter Try.func14, Try.ntmps14
    go_wp2_with fail
    rw [← HW0.out]
    refine (HIN.out _).mono ?_
    rintro e w1 ⟨rfl, rfl⟩
    rw [HF.out]
    go_wp2_with fail
    refine HAS.out.mono ?_
    rintro e w1 ⟨rfl, rfl⟩
    go_wp2_with fail
    go_ret2
    exact ⟨_, rfl, World.ownsRow.mono O0'.out.row (by omega), T0.out⟩
end Go.Proofs.Ytekejhnhkifcfaa
