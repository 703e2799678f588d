/-
  No statement is proved here: SharesOf in the document's own text; condition: numbers that are int32s.
-/
import Derived.Test.YtekejhnhkifcfaaSoM
import Derived.Test.YtekejhnhkifcfaaMeS
import Derived.Deep.RegionHeld3
import Derived.Deep.AppendLies
import Derived.Deep.Onto
import Derived.IntWalk
namespace Go.Proofs.Ytekejhnhkifcfaa
open Go.ChangeShapes Go.WideShapes Go.ChangeAt Go.RowKit

theorem lowL_take (n : Nat → Int) (d : Int) (k : Nat) (hk : k < 8) : (lowL n d).take (k + 1) = (lowL n d).take k ++ [(lowN (n k) d, lowD (n k) d)] := by
  rw [List.take_add_one]
  congr 1
  unfold lowL
  simp [hk]
theorem one_oneF (a b : Int) : ∀ j, j < 2 → (#[Value.int .i64 a, .int .i64 b])[j]? = (cellsFc [(a, b)])[j]? := fun j hj => by
  rcases j with _ | _ | j
  · rfl
  · rfl
  · omega

theorem fc_one (a b : Int) : ∀ u ∈ [Value.int .i64 a, .int .i64 b], u.oneCell' = true := by
  intro u hu
  simp only [List.mem_cons, List.not_mem_nil, or_false] at hu
  rcases hu with rfl | rfl <;> rfl
theorem row_below {w w' : World} {base : Nat} {T : TypeId} {m n : Nat} {v : Value} {xs : List Value} (h : w.ownsRow base T m v n xs) (hB : Below w.heap.size w w') : w'.ownsRow base T m v n xs := by
  refine ⟨h.1, ?_⟩
  rcases h.2 with h2 | ⟨g, cap, cur, hv, hg, hh, r⟩
  · exact .inl h2
  · exact .inr ⟨g, cap, cur, hv, hg, by rw [hB.block g (lt_of_block hh)]; exact hh, r⟩
set_option maxRecDepth 100000 in
set_option maxHeartbeats 4000000 in
theorem specShares_any (x0 x1 x2 x3 x4 x5 x6 x7 : Int) (w : World) (hz : bd32 (z8 x0 x1 x2 x3 x4 x5 x6 x7)) :
    Calls Try.prog 26 #[.agg #[.int .i32 x0, .int .i32 x1, .int .i32 x2, .int .i32 x3, .int .i32 x4, .int .i32 x5, .int .i32 x6, .int .i32 x7]] w fun e w' => ∃ u, e = .returned (.tuple #[u, .int .i64 (sharesF (z8 x0 x1 x2 x3 x4 x5 x6 x7)).2]) ∧ OwnFc w' w.heap.size u (sharesF (z8 x0 x1 x2 x3 x4 x5 x6 x7)).1 ∧ Below w.heap.size w w' := by
  obtain ⟨i0, hi, hz0, hz1, hz2⟩ := info_parts infoFraction
  have hbs : ∀ wx : World, (Instr.buildSlice 45 0 #[]).run Try.prog wx = .ok (.slice (some ⟨wx.heap.size, 0, none⟩) 0 0) (wx.alloc (.cells #[] 38)) := fun wx => by kernel_rfl
  obtain ⟨W0, hW0⟩ : ∃ W0, W0 = (w.alloc (.cells #[.int .i32 x0, .int .i32 x1, .int .i32 x2, .int .i32 x3, .int .i32 x4, .int .i32 x5, .int .i32 x6, .int .i32 x7] 23)).alloc (.cells #[] 38) := ⟨_, rfl⟩
  have hA : HeapAt W0 w.heap.size 0 (z8 x0 x1 x2 x3 x4 x5 x6 x7) := hW0 ▸ (heapAt_alloc w x0 x1 x2 x3 x4 x5 x6 x7 23).below ((Below.refl _ _).alloc (Nat.le_refl _) _) (by simp)
  have O0 : OwnFc W0 (w.heap.size + 1) (.slice (some ⟨w.heap.size + 1, 0, none⟩) 0 0) [] := ⟨isFc _, by
    have := World.ownsRow_made (base := w.heap.size + 1) (e := 38) (size := 2) (w.alloc (.cells #[.int .i32 x0, .int .i32 x1, .int .i32 x2, .int .i32 x3, .int .i32 x4, .int .i32 x5, .int .i32 x6, .int .i32 x7] 23)) #[] 0 (by simp) (by decide) rfl
    rw [hW0]
    simpa [cellsFc] using this⟩
  have T0 := Lib.hid (show Below w.heap.size w W0 by rw [hW0]; go_grown)
  have HZ0 := Lib.hid (show W0.heap.size = w.heap.size + 2 by rw [hW0]; simp)
  have HS := Lib.hid (specSome_any _ w.heap.size 0 W0 hA hz)
  have HW0 := Lib.hid hW0
  have hm : sharesF (z8 x0 x1 x2 x3 x4 x5 x6 x7) = if someF (z8 x0 x1 x2 x3 x4 x5 x6 x7) = 0 then (lowL (z8 x0 x1 x2 x3 x4 x5 x6 x7) (sumTo (z8 x0 x1 x2 x3 x4 x5 x6 x7) 8), 0) else ([], someF (z8 x0 x1 x2 x3 x4 x5 x6 x7)) := rfl
  have hA2 := Lib.hid fun wx (hB : Below (w.heap.size + 1) W0 wx) => hA.below hB (by omega)
  have O0' := Lib.hid O0
  clear hW0 O0
  by_cases hc : someF (z8 x0 x1 x2 x3 x4 x5 x6 x7) = 0
  · obtain ⟨hok, hn⟩ := someF_zero hc
    rw [if_pos hc] at hm
    rw [hm]
    have hs8 := sum8_bd hok
    have HG := Lib.hid fun wx (hx : HeapAt wx w.heap.size 0 (z8 x0 x1 x2 x3 x4 x5 x6 x7)) => l01Grams_any _ w.heap.size 0 wx hx hz
    have HBD := Lib.hid (okH_of hok)
    rw [hc] at HS
    clear hm hc hz hok hA
    generalize (z8 x0 x1 x2 x3 x4 x5 x6 x7) = z at *
    generalize hsm : sumTo z 8 = s at *
    clear hsm
    have hd : 0 < s := by omega
    have HT := Lib.hid (lowL_take z s)
    have HLL := Lib.hid (lowL_length z s)
    have HM := Lib.hid fun k (hk : k < 8) wx => make_any (z k) s wx (by have := HBD.out k hk; omega) (by have := HBD.out k hk; omega) hd (by omega)
    generalize hL : lowL z s = F at *
    clear hL hn
    go_enter Try.func26, Try.ntmps26
    go_wp2_with fail
    rw [← HW0.out]
    refine HS.out.mono ?_
    rintro e w1 ⟨rfl, rfl⟩
    go_wp2_with fail
    go_loopw [4, 6] (fun u i wr => ∃ (k : Nat) (v : Value), k ≤ 8 ∧ i = .int .i64 k ∧ v = u ∧ Hid (OwnFc wr (w.heap.size + 1) v (F.take k)) ∧ Hid (Below (w.heap.size + 1) W0 wr)) (fun _ i _ => 8 - (intOf i).toNat)
    case atStart => exact ⟨0, _, Nat.zero_le _, rfl, rfl, O0', Lib.hid (Below.refl _ _)⟩
    case round =>
      obtain ⟨k, v, hk, rfl, rfl, hO, hB⟩ := hrel
      by_cases hlt : k < 8
      · obtain ⟨wa, wc, rfl⟩ : ∃ wa wc, v = .slice wa (k : Nat) wc := by
          obtain ⟨wa, wc, e⟩ := hO.out.rel.len
          rw [List.length_take, HLL.out, Nat.min_eq_left hk] at e
          exact ⟨wa, wc, e⟩
        have hx := hA2.out _ hB.out
        have c0 : wr.cell? ⟨w.heap.size, k, none⟩ = some (.int .i32 (z k)) := by have := hx k hlt; rwa [Nat.zero_add] at this
        have HX := Lib.hid (show HeapAt wr.drew w.heap.size 0 z from hx)
        have HGk := Lib.hid (HG.out _ HX.out)
        have HMk := Lib.hid fun wx => HM.out k hlt wx
        have hzk := HBD.out k hlt
        have hsz : w.heap.size + 2 ≤ wr.heap.size := by have := hB.out.size; rw [HZ0.out] at this; omega
        have R0 : Hid (wr.drew.ownsRow (w.heap.size + 1) 38 2 (.slice wa (k : Nat) wc) k (cellsFc (F.take k))) := Lib.hid (by
          have h := hO.out.row
          rw [List.length_take, HLL.out, Nat.min_eq_left hk] at h
          exact h)
        have HAP := Lib.hid hO.out.lt
        have HTk := Lib.hid (HT.out k hlt)
        have HSZ := Lib.hid hsz
        have HSL := Lib.hid (show w.heap.size < wr.drew.heap.size by show w.heap.size < wr.heap.size; omega)
        have hki : (k : Int) < 8 := by omega
        clear hx hO hsz
        generalize z k = y at *
        have HM2 : Hid (∀ (a b : World) (o : Obj), Below wr.drew.heap.size wr.drew a → (a.alloc o).grownBy b (Value.slice wa (k : Nat) wc).ownBlock → b.cell? ⟨w.heap.size, k, none⟩ = some (.int .i32 y)) := Lib.hid fun a b o h1 h2 => by
          have e1 : w.heap.size < a.heap.size := Nat.lt_of_lt_of_le HSL.out h1.size
          have e2 : (a.alloc o).cell? ⟨w.heap.size, k, none⟩ = some (.int .i32 y) := kept ((Below.refl _ _).alloc (Nat.le_refl _) _) e1 (kept h1 HSL.out c0)
          exact (h2.cell_far ⟨w.heap.size, k, none⟩ (by rw [World.size_alloc]; show w.heap.size < _; omega) (fun e => by have := (HAP.out _ e.symm).1; simp only at this; omega)).trans e2
        have hyw : IntKind.i64.wrap y = y := IntWalk.i64_in _ (by omega)
        go_wp2_with fail
        go_region_held3 (fun w' => w'.cell? ⟨w.heap.size, k, none⟩ = some (.int .i32 y))
          (first | exact c0 | assumption | exact kept hB2 HSL.out c0 | go_keep)
          (first
          | (refine step_append_lies _ (by rfl) _ _ _ (by rfl) (w.heap.size + 1) 38 i0 (.agg #[.int .i64 0, .int .i64 0]) 2 16 Try.underlying45 hi hz0 hz1 hz2 rfl (by omega) (.slice wa (k : Nat) wc) k _ (by rfl) (World.ownsRow.alloc (row_below R0.out hB2) _) ⟨w2.heap.size, 0, none⟩ 1 1 _ (by rfl) rfl (World.news_of_block (heap_alloc_new w2 _)) (fc_one _ _) (by omega) (by unfold maxLen; omega) (by omega) (by have := hB2.size; have := HSZ.out; simp at *; omega) (w2.heap.size + 1) (by simp) ?_; intro g2 cap2 w3 hown2 hgrow2 hat2 hlt2; have m2 := HM2.out _ _ _ hB2 hgrow2)
          | (go_at_call 39; refine HGk.out.mono ?_; rintro e w' ⟨rfl, rfl⟩)
          | (go_at_call 44; refine (HMk.out _).mono ?_; rintro e w2 ⟨rfl, hB2⟩)
          | fail)
        all_goals
          have hB3 : Below (w.heap.size + 1) W0 w3 := (hB.out.drew.trans (hB2.mono (by have := HSZ.out; show w.heap.size + 1 ≤ wr.heap.size; omega))).trans (((Below.refl (w.heap.size + 1) w2).alloc (by have := hB2.size; have := HSZ.out; have e : wr.drew.heap.size = wr.heap.size := rfl; omega) _).trans ((Below.refl _ _).grown hgrow2 (by rw [World.size_alloc]; have := hB2.size; have := HSZ.out; have e : wr.drew.heap.size = wr.heap.size := rfl; omega) (fun j e => (HAP.out j e).1)))
          have HO3 : Hid (OwnFc w3 (w.heap.size + 1) (.slice (some ⟨g2, 0, none⟩) (k + 1 : Nat) cap2) (F.take (k + 1))) := Lib.hid ⟨isFc _, by
            rw [List.length_take, HLL.out, Nat.min_eq_left (by omega), HTk.out]
            have e : cellsFc (F.take k ++ [(lowN y s, lowD y s)]) = cellsFc (F.take k) ++ [.int .i64 (lowN y s), .int .i64 (lowD y s)] := by simp [cellsFc]
            rw [e]
            exact hown2⟩
          have HB3 := Lib.hid hB3
          clear hown2 hgrow2 hat2 hlt2 m2 hB3 hB2 c0
          go_wp2_with fail
          go_roundw
          case rel => exact ⟨k + 1, _, by omega, by go_num, rfl, HO3, HB3⟩
          case measure => simp [intOf]; omega
      · obtain rfl : k = 8 := by omega
        have e : F.take 8 = F := by rw [List.take_of_length_le (by rw [HLL.out]; omega)]
        have HOO := Lib.hid hO.out
        go_wp2
        go_ret2
        refine ⟨_, rfl, ?_, T0.out.trans (hB.out.mono (by omega))⟩
        have h := HOO.out
        rw [e] at h
        exact ⟨h.1, World.ownsRow.mono h.2 (by omega)⟩
  · rw [if_neg hc] at hm
    rw [hm]
    clear hm hA2 hA hz
    generalize someF (z8 x0 x1 x2 x3 x4 x5 x6 x7) = cc at *
    have hcn : (cc != 0) = true := by simpa using hc
    go_enter Try.func26, Try.ntmps26
    go_wp2_with fail
    rw [← HW0.out]
    refine HS.out.mono ?_
    rintro e w1 ⟨rfl, rfl⟩
    go_wp2_with fail
    go_ret2
    exact ⟨_, rfl, ⟨O0'.out.1, World.ownsRow.mono O0'.out.2 (by omega)⟩, T0.out⟩
end Go.Proofs.Ytekejhnhkifcfaa
