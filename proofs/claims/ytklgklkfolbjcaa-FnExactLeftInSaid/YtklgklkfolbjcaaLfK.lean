/-
  No statement is proved here: ServedBy and LeftIn in the program; condition: at most 1048576 of each.
-/
import Derived.Test.YtklgklkfolbjcaaLfJ
namespace Go.Proofs.Ytklgklkfolbjcaa
open Go.ChangeShapes Go.WideShapes Go.ChangeAt Go.RowKit


set_option maxRecDepth 100000 in
set_option maxHeartbeats 4000000 in
theorem implServed_any (va vo vp : Value) (T : List Lt) (os : List Od) (ps : List Int) (w : World) (ha : Lts w va T) (ho : Ods w vo os) (hp : Ints w vp ps) (hn0 : T.length ≤ 1048576) (hn1 : os.length ≤ 1048576) (hn : ps.length ≤ 1048576) :
    Calls Try.prog 23 #[va, vo, vp] w fun e w' => e = .returned (.tuple #[.bool (servedF T os ps).1, .int .i64 (servedF T os ps).2]) ∧ Below w.heap.size w w' := by
  have HV := Lib.hid (implLts_any va T w ha hn0)
  have HH := Lib.hid (And.intro ha (And.intro ho hp))
  clear ha ho hp
  cases h1 : isLts T with
  | false =>
    rw [h1] at HV
    rw [servedF_no1 h1]
    clear h1
    · go_enter Try.func23, Try.ntmps23
      go_wp2_with fail
      refine HV.out.mono ?_
      rintro e w1 ⟨rfl, hB⟩
      have T1 := Lib.hid hB
      clear hB
      go_wp2_with fail
      go_returns
      exact ⟨rfl, T1.out⟩
  | true =>
    rw [h1] at HV
    cases h2 : isOds os with
    | false =>
      rw [servedF_no2 h2]
      clear h1
      go_enter Try.func23, Try.ntmps23
      go_wp2_with fail
      refine HV.out.mono ?_
      rintro e w1 ⟨rfl, hB⟩
      have T1 := Lib.hid hB
      have HO := Lib.hid (implOds_any vo os w1 (HH.out.2.1.below hB) hn1)
      rw [h2] at HO
      clear hB h2
      go_wp2_with fail
      refine HO.out.mono ?_
      rintro e w2 ⟨rfl, hB⟩
      have T2 := Lib.hid (T1.out.trans (hB.mono T1.out.size))
      clear hB
      go_wp2_with fail
      go_returns
      exact ⟨rfl, T2.out⟩
    | true =>
      rw [servedF_yes h1 h2]
      have HR0 := Lib.hid (And.intro h1 h2)
      go_enter Try.func23, Try.ntmps23
      go_wp2_with fail
      refine HV.out.mono ?_
      rintro e w1 ⟨rfl, hB⟩
      have T1 := Lib.hid hB
      have HO := Lib.hid (implOds_any vo os w1 (HH.out.2.1.below hB) hn1)
      rw [h2] at HO
      clear hB h1 h2
      go_wp2_with fail
      refine HO.out.mono ?_
      rintro e w2 ⟨rfl, hB⟩
      have T2 := Lib.hid (T1.out.trans (hB.mono T1.out.size))
      have HL := Lib.hid (leftBy_any va vo vp T os ps w2 (HH.out.1.below T2.out) (HH.out.2.1.below T2.out) (HH.out.2.2.below T2.out) HR0.out.1 HR0.out.2 hn)
      clear hB
      go_wp2_with fail
      refine HL.out.mono ?_
      rintro e w3 ⟨u, rfl, _, hB⟩
      have T3 := Lib.hid (T2.out.trans (hB.mono T2.out.size))
      clear hB
      go_wp2_with fail
      go_returns
      exact ⟨rfl, T3.out⟩

set_option maxRecDepth 100000 in
set_option maxHeartbeats 4000000 in
theorem implLeftIn_any (va vo vp : Value) (T : List Lt) (os : List Od) (ps : List Int) (w : World) (ha : Lts w va T) (ho : Ods w vo os) (hp : Ints w vp ps) (hn0 : T.length ≤ 1048576) (hn1 : os.length ≤ 1048576) (hn : ps.length ≤ 1048576) :
    Calls Try.prog 26 #[va, vo, vp] w fun e w' => ∃ r, e = .returned (.tuple #[r, .int .i64 (leftF T os ps).2]) ∧ Own w' w.heap.size r (leftF T os ps).1 ∧ Below w.heap.size w w' := by
  have HV := Lib.hid (implLts_any va T w ha hn0)
  have HH := Lib.hid (And.intro ha (And.intro ho hp))
  clear ha ho hp
  cases h1 : isLts T with
  | false =>
    rw [h1] at HV
    rw [leftF_no1 h1]
    clear h1
    · go_enter Try.func26, Try.ntmps26
      go_wp2_with fail
      refine HV.out.mono ?_
      rintro e w1 ⟨rfl, hB⟩
      have T1 := Lib.hid hB
      clear hB
      go_wp2_with fail
      go_returns
      exact ⟨_, rfl, (World.ownsRow_nil _ _ _ _ : World.ownsRow _ _ _ _ _ _ _), T1.out⟩
  | true =>
    rw [h1] at HV
    cases h2 : isOds os with
    | false =>
      rw [leftF_no2 h2]
      clear h1
      go_enter Try.func26, Try.ntmps26
      go_wp2_with fail
      refine HV.out.mono ?_
      rintro e w1 ⟨rfl, hB⟩
      have T1 := Lib.hid hB
      have HO := Lib.hid (implOds_any vo os w1 (HH.out.2.1.below hB) hn1)
      rw [h2] at HO
      clear hB h2
      go_wp2_with fail
      refine HO.out.mono ?_
      rintro e w2 ⟨rfl, hB⟩
      have T2 := Lib.hid (T1.out.trans (hB.mono T1.out.size))
      clear hB
      go_wp2_with fail
      go_returns
      exact ⟨_, rfl, (World.ownsRow_nil _ _ _ _ : World.ownsRow _ _ _ _ _ _ _), T2.out⟩
    | true =>
      cases hl : leftT T os ps with
      | none =>
        rw [leftF_none h1 h2 hl]
        have HR0 := Lib.hid (And.intro h1 h2)
        go_enter Try.func26, Try.ntmps26
        go_wp2_with fail
        refine HV.out.mono ?_
        rintro e w1 ⟨rfl, hB⟩
        have T1 := Lib.hid hB
        have HO := Lib.hid (implOds_any vo os w1 (HH.out.2.1.below hB) hn1)
        rw [h2] at HO
        clear hB h1 h2
        go_wp2_with fail
        refine HO.out.mono ?_
        rintro e w2 ⟨rfl, hB⟩
        have T2 := Lib.hid (T1.out.trans (hB.mono T1.out.size))
        have HL := Lib.hid (leftBy_any va vo vp T os ps w2 (HH.out.1.below T2.out) (HH.out.2.1.below T2.out) (HH.out.2.2.below T2.out) HR0.out.1 HR0.out.2 hn)
        rw [hl] at HL
        have HLT := Lib.hid hl
        clear hl
        clear hB
        go_wp2_with fail
        refine HL.out.mono ?_
        rintro e w3 ⟨u, rfl, _, hB⟩
        have T3 := Lib.hid (T2.out.trans (hB.mono T2.out.size))
        clear hB
        go_wp2_with fail
        go_returns
        exact ⟨_, rfl, (World.ownsRow_nil _ _ _ _ : World.ownsRow _ _ _ _ _ _ _), T3.out⟩
      | some U =>
        rw [leftF_some h1 h2 hl]
        have HR0 := Lib.hid (And.intro h1 h2)
        go_enter Try.func26, Try.ntmps26
        go_wp2_with fail
        refine HV.out.mono ?_
        rintro e w1 ⟨rfl, hB⟩
        have T1 := Lib.hid hB
        have HO := Lib.hid (implOds_any vo os w1 (HH.out.2.1.below hB) hn1)
        rw [h2] at HO
        clear hB h1 h2
        go_wp2_with fail
        refine HO.out.mono ?_
        rintro e w2 ⟨rfl, hB⟩
        have T2 := Lib.hid (T1.out.trans (hB.mono T1.out.size))
        have HL := Lib.hid (leftBy_any va vo vp T os ps w2 (HH.out.1.below T2.out) (HH.out.2.1.below T2.out) (HH.out.2.2.below T2.out) HR0.out.1 HR0.out.2 hn)
        rw [hl] at HL
        have HLT := Lib.hid hl
        clear hl
        clear hB
        go_wp2_with fail
        refine HL.out.mono ?_
        rintro e w3 ⟨u, rfl, own, hB⟩
        have T3 := Lib.hid (T2.out.trans (hB.mono T2.out.size))
        have OW := Lib.hid (own U rfl)
        have hlt : U.length ≤ 6 := by
          have h0 := (leftT_kept (isLts_of HR0.out.1).1 (isOds_of HR0.out.2).1 HLT.out).1
          have := (isLts_of HR0.out.1).2
          omega
        obtain ⟨wa, wc, rfl⟩ := OW.out.rel.len
        have HS2 := Lib.hid T2.out.size
        clear hB own
        obtain ⟨zs, hzs⟩ : ∃ zs, zs = grams U := ⟨_, rfl⟩
        have HZ := Lib.hid hzs
        have HN : Hid (U.length = zs.length) := Lib.hid (by rw [hzs, grams_length])
        clear hzs
        obtain ⟨n, hln⟩ : ∃ n, n = U.length := ⟨_, rfl⟩
        rw [← hln] at OW hlt HN ⊢
        have HL := Lib.hid HN.out
        have HLU := Lib.hid hln
        clear hln
        obtain ⟨i0, hi, hz0, hz1, hz2⟩ := info_parts info64
        go_wp2_with (first | (at_make; refine wpList_make_full _ rfl _ _ 36 rfl w3.heap.size 2 i0 (.int .i64 0) 1 Try.underlying36 hi hz0 hz1 _ _ _ _ n rfl rfl rfl rfl (by rw [hz2]; omega) (by unfold maxLen; omega) (Nat.le_refl _) ?_; intro w4 hown hgrow) | fail)
        have T4 := Lib.hid (T3.out.grown hgrow T3.out.size (fun k hk => by cases hk))
        have hfl := fun k (hk : k ≤ n) => fill_length zs k (by rw [← HL.out]; exact hk)
        have hst := fun k (hk : k < n) => fill_step zs k (by rw [← HL.out]; exact hk)
        have hz0' : (madeCells (Value.int IntKind.i64 0).cells (n * 1)).toList = (fill zs 0).map (Value.int .i64) := by
          rw [fill_zero, ← HL.out, Nat.mul_one]
          show (madeCells #[Value.int IntKind.i64 0] n).toList = _
          rw [toList_madeCells_one]
          simp
        rw [hz0'] at hown
        have OL : Hid (OwnLt w4 w2.heap.size (.slice wa n wc) U) := Lib.hid (OW.out.kept (row := none) hgrow (by
          cases hwo : (Value.slice wa n wc).ownBlock with
          | none => exact .inl rfl
          | some k => exact .inr (by simp)))
        have HW := Lib.hid hown
        have HFL := Lib.hid hfl
        have HST := Lib.hid hst
        have HW3 := Lib.hid T3.out.size
        have HOB := Lib.hid OW.out.lt
        clear hown hgrow hz0' hfl hst
        generalize hnb : w3.heap.size = nb at *
        clear hnb
        go_wp2_with fail
        go_loopw [35] (fun i wr => ∃ k : Nat, k ≤ n ∧ i = .int .i64 k ∧ Hid (wr.ownsRow nb 2 1 (.slice (some ⟨nb, 0, none⟩) n n) n ((fill zs k).map (Value.int .i64))) ∧ Hid (OwnLt wr w2.heap.size (.slice wa n wc) U) ∧ Hid (Below w.heap.size w wr)) (fun i _ => n - (intOf i).toNat)
        case atStart => exact ⟨0, Nat.zero_le _, rfl, HW, OL, T4⟩
        case round =>
          obtain ⟨k, hk, rfl, hO, hU, hBe⟩ := hrel
          by_cases hlk : k < n
          · obtain ⟨g, rfl, hgb, hgs⟩ := ownLt_at hU.out HLU.out (by omega)
            have hrow := hU.out.row
            rw [← HLU.out] at hrow
            have g0 := (cellsLt_get U k (by rw [← HLU.out]; exact hlk)).1
            have g1 := (cellsLt_get U k (by rw [← HLU.out]; exact hlk)).2
            have e0 := (hrow.cellAt (k * 2) (by omega)).trans g0
            have e1 := (hrow.cellAt (k * 2 + 1) (by omega)).trans g1
            have hgy : (atLt U k).2 = zs.getD k 0 := by rw [HZ.out, grams_get]
            rw [hgy] at e1
            have hr16 := (hU.out.1 k).2
            rw [hgy] at hr16
            generalize (atLt U k).1 = ls at *
            have hcy : wr.cell? ⟨nb, k, none⟩ = some (.int .i64 ((fill zs k).getD k 0)) := (hO.out.cellAt k (by omega)).trans (cellOf (by rw [HFL.out k hk, ← HL.out]; exact hlk))
            have hfy : wr.frozen? ⟨nb, k, none⟩ = false := hO.out.frozenAt k
            have hnw := (World.ownsRow.lt hO.out nb rfl).2
            have hgn : g < nb := by
              have := (HOB.out g rfl).2
              exact this
            have S1 := (hO.out.stored k (Value.int .i64 (zs.getD k 0))).1
            rw [← List.map_set, HST.out k hlk] at S1
            obtain ⟨W1, hW1⟩ : ∃ W1, W1 = wr.alloc (.cells #[.int .i8 ls, .int .i16 (zs.getD k 0)] 59) := ⟨_, rfl⟩
            have al : Below wr.heap.size wr W1 := by rw [hW1]; exact (Below.refl _ _).alloc (Nat.le_refl _) _
            have gal : wr.grownBy W1 none := by rw [hW1]; exact World.grownBy_alloc _ _ _
            have O1 := hO.out.kept (row := none) gal (.inr (by simp [Value.ownBlock]))
            have S2 := Lib.hid (O1.stored k (Value.int .i64 (zs.getD k 0))).1
            rw [← List.map_set, HST.out k hlk] at S2
            have U1 := (hU.out.kept (row := none) gal (.inr (by simp [Value.ownBlock]))).kept (grownBy_setI W1 nb k (.int .i64 (zs.getD k 0))) (.inr (by simp [Value.ownBlock]; omega))
            have HU1 := Lib.hid U1
            have HB1 := Lib.hid ((hBe.out.trans (al.mono hBe.out.size)).setCell (p := ⟨nb, k, none⟩) HW3.out (.int .i64 (zs.getD k 0)))
            have m0 : W1.cell? ⟨wr.heap.size, 0, none⟩ = some (.int .i8 ls) := by rw [hW1]; simp [go_sem]
            have m1 : W1.cell? ⟨wr.heap.size, 1, none⟩ = some (.int .i16 (zs.getD k 0)) := by rw [hW1]; simp [go_sem]
            have hcy1 := (al.cell (p := ⟨nb, k, none⟩) hnw).trans hcy
            have hfy1 := (al.frozen (p := ⟨nb, k, none⟩) hnw).trans hfy
            clear m0 m1
            subst hW1
            clear hcy hfy S1 hrow g0 g1 hgy al gal O1 U1 hO hU hnw
            generalize zs.getD k 0 = z at *
            go_wp2_with fail
            go_roundw
            case rel => exact ⟨k + 1, by omega, by go_num, S2, HU1, HB1⟩
            case measure => simp [intOf]; omega
          · have hkn : k = n := by omega
            subst hkn
            have e : fill zs k = zs := by rw [HL.out]; exact fill_all zs
            go_wp2_with fail
            go_returns
            refine ⟨_, rfl, ?_, hBe.out⟩
            have h := hO.out
            rw [e] at h
            show Own _ _ _ (grams U)
            rw [← HZ.out]
            unfold Own
            rw [← HL.out]
            exact ⟨h.1, h.2.imp id fun ⟨g, cap, cur, a, b, c⟩ => ⟨g, cap, cur, a, Nat.le_trans HW3.out b, c⟩⟩
end Go.Proofs.Ytklgklkfolbjcaa
