/-
  No statement is proved here: ShadeSums in the program; condition: at most 1048576 of each.
-/
import Derived.Test.YtklgklkfolbjcaaShM
import Derived.Laws.OwnMore
namespace Go.Proofs.Ytklgklkfolbjcaa
open Go.ChangeShapes Go.WideShapes Go.ChangeAt Go.RowKit

set_option maxRecDepth 100000 in
set_option maxHeartbeats 8000000 in
theorem implShadeSums_any (va vo : Value) (T : List Lt) (os : List Od) (w : World) (ha : Lts w va T) (ho : Ods w vo os) (hn0 : T.length ≤ 1048576) (hn1 : os.length ≤ 1048576) :
    Calls Try.prog 32 #[va, vo] w fun e w' => ∃ r, e = .returned (.tuple #[r, .int .i64 (shadeF T os).2]) ∧ OwnPr w' w.heap.size r (shadeF T os).1 ∧ Below w.heap.size w w' := by
  obtain ⟨i0, hi, hz0, hz1, hz2⟩ := info_parts infoPr
  have HV := Lib.hid (implLts_any va T w ha hn0)
  have HH := Lib.hid (And.intro ha ho)
  cases h1 : isLts T with
  | false =>
    rw [h1] at HV
    rw [shadeF_no1 h1]
    clear h1 ha ho
    go_enter Try.func32, Try.ntmps32
    go_wp2_with fail
    refine HV.out.mono ?_
    rintro e w1 ⟨rfl, hB⟩
    have T1 := Lib.hid hB
    clear hB
    go_wp2_with fail
    go_returns
    exact ⟨_, rfl, (by simpa [OwnPr, cellsPr] using World.ownsRow_nil _ _ _ _), T1.out⟩
  | true =>
    rw [h1] at HV
    cases h2 : isOds os with
    | false =>
      rw [shadeF_no2 h2]
      clear h1 ha ho
      go_enter Try.func32, Try.ntmps32
      go_wp2_with fail
      refine HV.out.mono ?_
      rintro e w1 ⟨rfl, hB⟩
      have T1 := Lib.hid hB
      have HO := Lib.hid (implOds_any vo os w1 (HH.out.2.below hB) hn1)
      rw [h2] at HO
      clear hB h2
      go_wp2_with fail
      refine HO.out.mono ?_
      rintro e w2 ⟨rfl, hB⟩
      have T2 := Lib.hid (T1.out.trans (hB.mono T1.out.size))
      clear hB
      go_wp2_with fail
      go_returns
      exact ⟨_, rfl, (by simpa [OwnPr, cellsPr] using World.ownsRow_nil _ _ _ _), T2.out⟩
    | true =>
      rw [shadeF_yes h1 h2]
      obtain ⟨hT1, hT6⟩ := isLts_of h1
      obtain ⟨hO1, hO7⟩ := isOds_of h2
      have HLI := Lib.hid (fun s => lotTo_in hT1 s)
      have HOI := Lib.hid (fun s => ordTo_in hO1 s)
      have HLK := Lib.hid (allLt_get hT1)
      have HOK := Lib.hid (allOd_get hO1)
      have HLS := Lib.hid fun (k j q : Nat) (g : Int) hq h => @flat_lot T os k j q g hq h
      have HOS := Lib.hid fun (k j q : Nat) (g : Int) hq h => @flat_ord T os k j q g hq h
      have HGET := Lib.hid (flat_get T os)
      have HFL := Lib.hid (flat_length T os)
      have HTC := Lib.hid (table_cells T os)
      have HTL : Hid ((table T os).length = 10) := Lib.hid (by simp [table])
      obtain ⟨aa, ca, rfl⟩ := ha.len
      obtain ⟨ao, co, rfl⟩ := ho.len
      have HA := Lib.hid ha.at
      have HOat := Lib.hid ho.at
      clear ha ho hT1 hO1 h1
      obtain ⟨n, hln⟩ : ∃ n, n = T.length := ⟨_, rfl⟩
      obtain ⟨m, hlm⟩ : ∃ m, m = os.length := ⟨_, rfl⟩
      rw [← hln] at HA HLI HLK HTC hT6 hn0 HV ⊢
      rw [← hlm] at HOat HOI HOK HTC hO7 hn1 ⊢
      have HLN := Lib.hid hln
      have HLM := Lib.hid hlm
      have H2 := Lib.hid h2
      clear hln hlm h2
      go_enter Try.func32, Try.ntmps32
      go_wp2_with fail
      refine HV.out.mono ?_
      rintro e w1 ⟨rfl, hB⟩
      have T1 := Lib.hid hB
      have HO := Lib.hid (implOds_any _ os w1 (HH.out.2.below hB) (by rw [← HLM.out]; omega))
      rw [H2.out, ← HLM.out] at HO
      clear hB
      go_wp2_with fail
      refine HO.out.mono ?_
      rintro e w2 ⟨rfl, hB⟩
      have T2 := Lib.hid (T1.out.trans (hB.mono T1.out.size))
      clear hB
      go_wp2_with (first | (at_make; refine wpList_make_full _ rfl _ _ 47 rfl w2.heap.size 73 i0 (.agg #[.int .i64 0, .int .i64 0]) 2 Try.underlying47 hi hz0 hz1 _ _ _ _ 10 rfl rfl rfl rfl (by rw [hz2]; decide) (by decide) (Nat.le_refl _) ?_; intro w4 hown hgrow) | fail)
      rw [madePr, ← flat_zero T os] at hown
      have T4 := Lib.hid (T2.out.grown hgrow T2.out.size (fun k hk => by cases hk))
      have OW := Lib.hid hown
      have HS2 := Lib.hid T2.out.size
      clear hown hgrow
      generalize hnb : w2.heap.size = nb at *
      clear hnb
      go_wp2_with fail
      go_loopw [22] (fun i wr => ∃ k : Nat, k ≤ n ∧ i = .int .i64 k ∧ Hid (wr.ownsRow nb 73 2 (.slice (some ⟨nb, 0, none⟩) 10 10) 10 ((flat T os k 0).map (Value.int .i64))) ∧ Hid (Below w.heap.size w wr)) (fun i _ => n - (intOf i).toNat)
      case atStart => exact ⟨0, Nat.zero_le _, rfl, OW, T4⟩
      case round =>
        obtain ⟨k, hk, rfl, hO, hBl⟩ := hrel
        by_cases hlt : k < n
        · have hki : (k : Int) < (n : Int) := by omega
          obtain ⟨b, off, rfl, hb, hc⟩ := HA.out (by omega)
          have hck := hc k hlt
          have hok := HLK.out k hlt
          obtain ⟨y, hy⟩ : ∃ y, y = atLt T k := ⟨_, rfl⟩
          rw [← hy] at hck hok
          obtain ⟨y0, g⟩ := y
          obtain ⟨q, rfl, hq, hg0, hg1⟩ := okLt_parts hok
          have hset := HLS.out k 0 q g hq hy.symm
          have hin := HLI.out q k hk
          have d0 := (hBl.out.cell (p := ⟨b, _, none⟩) hb).trans hck.1
          have d1 := (hBl.out.cell (p := ⟨b, _, none⟩) hb).trans hck.2
          have hcell := hO.out.cellAt (q * 2) (by omega)
          rw [List.getElem?_map, HGET.out _ _ _ (by omega), if_pos (by omega), show (q * 2) / 2 = q by omega] at hcell
          simp only [Option.map_some] at hcell
          have hfr := hO.out.frozenAt (q * 2)
          have S1 := (hO.out.stored (q * 2) (Value.int .i64 (lotTo T q k + g))).1
          rw [← List.map_set, hset] at S1
          obtain ⟨W1, hW1⟩ : ∃ W1, W1 = wr.alloc (.cells #[.int .i8 q, .int .i16 g] 59) := ⟨_, rfl⟩
          have hlw : nb < wr.heap.size := (World.ownsRow.lt hO.out nb rfl).2
          have al : Below wr.heap.size wr W1 := by rw [hW1]; exact (Below.refl _ _).alloc (Nat.le_refl _) _
          have gal : wr.grownBy W1 none := by rw [hW1]; exact World.grownBy_alloc _ _ _
          have R1 := hO.out.kept (row := none) gal (.inr (by simp [Value.ownBlock]))
          have S2 := (R1.stored (q * 2) (Value.int .i64 (lotTo T q k + g))).1
          rw [← List.map_set, hset] at S2
          have HS1 := Lib.hid (S2.kept (row := none) (drew_grown _) (.inr (by simp [Value.ownBlock])))
          have HB1 := Lib.hid ((hBl.out.trans (al.mono hBl.out.size)).setCell (p := ⟨nb, q * 2, none⟩) HS2.out (.int .i64 (lotTo T q k + g))).drew
          have m0 : W1.cell? ⟨wr.heap.size, 0, none⟩ = some (.int .i8 q) := by rw [hW1]; simp [go_sem]
          have m1 : W1.cell? ⟨wr.heap.size, 1, none⟩ = some (.int .i16 g) := by rw [hW1]; simp [go_sem]
          have hcell1 := (al.cell (p := ⟨nb, _, none⟩) hlw).trans hcell
          have hfr1 := (al.frozen (p := ⟨nb, _, none⟩) hlw).trans hfr
          have HW1 := Lib.hid hW1
          clear hc hck hok hy hset S1 hO hBl hcell hfr al gal R1 S2 hW1 hlw
          generalize lotTo T q k = z at *
          go_wp2_with fail
          rw [← HW1.out]
          go_region
          all_goals
            go_wp2_with fail
            go_roundw
            case rel => exact ⟨k + 1, by omega, by go_num, HS1, HB1⟩
            case measure => simp [intOf]; omega
        · have hkn : k = n := by omega
          subst hkn
          have OW2 := hO
          have T5 := hBl
          clear hO hBl OW T4
          go_wp2_with fail
          generalize k = N0 at *
          go_loopw [41] (fun i wr => ∃ k : Nat, k ≤ m ∧ i = .int .i64 k ∧ Hid (wr.ownsRow nb 73 2 (.slice (some ⟨nb, 0, none⟩) 10 10) 10 ((flat T os N0 k).map (Value.int .i64))) ∧ Hid (Below w.heap.size w wr)) (fun i _ => m - (intOf i).toNat)
          case atStart => exact ⟨0, Nat.zero_le _, rfl, OW2, T5⟩
          case round =>
            obtain ⟨k, hk, rfl, hO, hBl⟩ := hrel
            by_cases hlt : k < m
            · have hki : (k : Int) < (m : Int) := by omega
              obtain ⟨b, off, rfl, hb, hc⟩ := HOat.out (by omega)
              have hck := hc k hlt
              have hok := HOK.out k hlt
              obtain ⟨y, hy⟩ : ∃ y, y = atOd os k := ⟨_, rfl⟩
              rw [← hy] at hck hok
              obtain ⟨y0, g⟩ := y
              obtain ⟨q, rfl, hq, hg0, hg1⟩ := okOd_parts hok
              have hset := HOS.out N0 k q g hq hy.symm
              have hin := HOI.out q k hk
              have d0 := (hBl.out.cell (p := ⟨b, _, none⟩) hb).trans hck.1
              have d1 := (hBl.out.cell (p := ⟨b, _, none⟩) hb).trans hck.2
              have hcell := hO.out.cellAt (q * 2 + 1) (by omega)
              rw [List.getElem?_map, HGET.out _ _ _ (by omega), if_neg (by omega), show (q * 2 + 1) / 2 = q by omega] at hcell
              simp only [Option.map_some] at hcell
              have hfr := hO.out.frozenAt (q * 2 + 1)
              have S1 := (hO.out.stored (q * 2 + 1) (Value.int .i64 (ordTo os q k + g))).1
              rw [← List.map_set, hset] at S1
              obtain ⟨W1, hW1⟩ : ∃ W1, W1 = wr.alloc (.cells #[.int .i8 q, .int .i16 g] 64) := ⟨_, rfl⟩
              have hlw : nb < wr.heap.size := (World.ownsRow.lt hO.out nb rfl).2
              have al : Below wr.heap.size wr W1 := by rw [hW1]; exact (Below.refl _ _).alloc (Nat.le_refl _) _
              have gal : wr.grownBy W1 none := by rw [hW1]; exact World.grownBy_alloc _ _ _
              have R1 := hO.out.kept (row := none) gal (.inr (by simp [Value.ownBlock]))
              have S2 := (R1.stored (q * 2 + 1) (Value.int .i64 (ordTo os q k + g))).1
              rw [← List.map_set, hset] at S2
              have HS1 := Lib.hid (S2.kept (row := none) (drew_grown _) (.inr (by simp [Value.ownBlock])))
              have HB1 := Lib.hid ((hBl.out.trans (al.mono hBl.out.size)).setCell (p := ⟨nb, q * 2 + 1, none⟩) HS2.out (.int .i64 (ordTo os q k + g))).drew
              have m0 : W1.cell? ⟨wr.heap.size, 0, none⟩ = some (.int .i8 q) := by rw [hW1]; simp [go_sem]
              have m1 : W1.cell? ⟨wr.heap.size, 1, none⟩ = some (.int .i16 g) := by rw [hW1]; simp [go_sem]
              have hcell1 := (al.cell (p := ⟨nb, _, none⟩) hlw).trans hcell
              have hfr1 := (al.frozen (p := ⟨nb, _, none⟩) hlw).trans hfr
              have HW1 := Lib.hid hW1
              clear hc hck hok hy hset S1 hO hBl hcell hfr al gal R1 S2 hW1 hlw
              generalize ordTo os q k = z at *
              go_wp2_with fail
              rw [← HW1.out]
              go_region
              all_goals
                go_wp2_with fail
                go_roundw
                case rel => exact ⟨k + 1, by omega, by go_num, HS1, HB1⟩
                case measure => simp [intOf]; omega
            · have hkn : k = m := by omega
              subst hkn
              go_wp2_with fail
              go_returns
              refine ⟨_, rfl, ?_, hBl.out⟩
              have h := hO.out
              show World.ownsRow _ _ _ _ _ _ _
              rw [HTL.out, HTC.out]
              exact ⟨h.1, h.2.imp id fun ⟨g, cap, cur, a, b, c⟩ => ⟨g, cap, cur, a, Nat.le_trans HS2.out b, c⟩⟩
end Go.Proofs.Ytklgklkfolbjcaa
