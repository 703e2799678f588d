/-
  No statement is proved here: ShareCents in the program; condition: at most 1048576 numbers.
-/
import Derived.Test.YtklgklkfolbjcaaScG
import Derived.Test.YtklgklkfolbjcaaZeros
import Derived.Deep.RegionHeld3
namespace Go.Proofs.Ytklgklkfolbjcaa
open Go.ChangeShapes Go.WideShapes Go.ChangeAt Go.RowKit

theorem drew_grownS (w : World) : w.grownBy w.drew none := ⟨rfl, rfl, rfl, Nat.le_refl _, fun _ _ _ => rfl⟩
theorem fill_lst (f : Nat → Int) {n k : Nat} (h : k < n) : (fill (lst f n) k).set k (f k) = fill (lst f n) (k + 1) := by
  have := fill_step (lst f n) k (by rw [lst_length]; exact h)
  rwa [lst_get h] at this
theorem fill_len (f : Nat → Int) {n k : Nat} (h : k ≤ n) : (fill (lst f n) k).length = n := (fill_length _ k (by rw [lst_length]; exact h)).trans (lst_length f n)
theorem fill_end (f : Nat → Int) (n : Nat) : fill (lst f n) n = lst f n := by
  have := fill_all (lst f n)
  rwa [lst_length] at this
theorem fill_begin (f : Nat → Int) (n : Nat) : fill (lst f n) 0 = List.replicate n 0 := by rw [fill_zero, lst_length]
theorem up_lst {f : Nat → Int} {n : Nat} (h : ∀ j, j < n → 0 ≤ f j ∧ f j ≤ 1000000) : upTo (lst f n) 1000000 = true := by
  rw [upTo, List.all_eq_true]
  intro z hz
  obtain ⟨i, hi, rfl⟩ := List.mem_map.1 hz
  exact inB_mk (h i (List.mem_range.1 hi))

set_option maxRecDepth 100000 in
set_option maxHeartbeats 8000000 in
theorem implShare_any (c : Int) (v : Value) (gs : List Int) (w : World) (h : Ints w v gs) (hn : gs.length ≤ 1048576) :
    Calls Try.prog 37 #[.int .i64 c, v] w fun e w' => ∃ r, e = .returned (.tuple #[r, .int .i64 (shareF c gs).2]) ∧ Own w' w.heap.size r (shareF c gs).1 ∧ Below w.heap.size w w' := by
  have HU := Lib.hid fun wx (hx : Ints wx v gs) => areUp_any v gs 5000 wx hx hn
  by_cases hc : inB c 0 1000000 = true
  rotate_left
  · have hcf : inB c 0 1000000 = false := by simpa using hc
    rw [shareF_no (by rw [hcf]; rfl)]
    clear HU
    have hc2 : c < 0 ∨ 1000000 < c := by
      by_cases h1 : c < 0
      · exact .inl h1
      · by_cases h2 : 1000000 < c
        · exact .inr h2
        · exact absurd (inB_mk (by omega)) hc
    clear hc hcf
    obtain ⟨aa, ca, rfl⟩ := h.len
    generalize gs.length = n at *
    clear h
    rcases hc2 with h1 | h1
    · go_enter Try.func37, Try.ntmps37
      go_wp2_with fail
      go_returns
      exact ⟨_, rfl, (World.ownsRow_nil _ _ _ _ : World.ownsRow _ _ _ _ _ _ _), Below.refl _ _⟩
    · have h2 : ¬ c < 0 := by omega
      go_enter Try.func37, Try.ntmps37
      go_wp2_with fail
      go_returns
      exact ⟨_, rfl, (World.ownsRow_nil _ _ _ _ : World.ownsRow _ _ _ _ _ _ _), Below.refl _ _⟩
  · have hc2 := inB_of hc
    have hcn : ¬ c < 0 := by omega
    have hcm : ¬ 1000000 < c := by omega
    have HI := Lib.hid h
    cases hu : upTo gs 5000 with
    | false =>
      rw [hu] at HU
      rw [shareF_no (by rw [hu, Bool.and_false])]
      obtain ⟨aa, ca, rfl⟩ := h.len
      clear hu h
      generalize gs.length = n at *
      go_enter Try.func37, Try.ntmps37
      go_wp2_with fail
      refine (HU.out _ HI.out).mono ?_
      rintro e w1 ⟨rfl, rfl⟩
      go_wp2_with fail
      go_returns
      exact ⟨_, rfl, (World.ownsRow_nil _ _ _ _ : World.ownsRow _ _ _ _ _ _ _), Below.refl _ _⟩
    | true =>
      rw [hu] at HU
      have HB := Lib.hid (show (inB c 0 1000000 && upTo gs 5000) = true by rw [hc, hu]; rfl)
      have HSU := Lib.hid fun wx (hx : Ints wx v gs) => sumOf_any v gs wx hx hn (upTo_wide hu)
      by_cases hl : 60 < gs.length
      · rw [shareF_many HB.out hl]
        obtain ⟨aa, ca, rfl⟩ := h.len
        clear h hu HB HSU
        generalize gs.length = n at *
        have hl2 : (60 : Int) < (n : Int) := by omega
        go_enter Try.func37, Try.ntmps37
        go_wp2_with fail
        refine (HU.out _ HI.out).mono ?_
        rintro e w1 ⟨rfl, rfl⟩
        go_wp2_with fail
        go_returns
        exact ⟨_, rfl, (World.ownsRow_nil _ _ _ _ : World.ownsRow _ _ _ _ _ _ _), Below.refl _ _⟩
      · by_cases h0 : gs.sum = 0
        · rw [shareF_zero HB.out hl h0]
          rw [h0] at HSU
          obtain ⟨aa, ca, rfl⟩ := h.len
          clear h hu HB h0
          generalize gs.length = n at *
          have hl2 : ¬ (60 : Int) < (n : Int) := by omega
          go_enter Try.func37, Try.ntmps37
          go_wp2_with fail
          refine (HU.out _ HI.out).mono ?_
          rintro e w1 ⟨rfl, rfl⟩
          go_wp2_with fail
          refine (HSU.out _ HI.out).mono ?_
          rintro e w1 ⟨rfl, rfl⟩
          go_wp2_with fail
          go_returns
          exact ⟨_, rfl, (World.ownsRow_nil _ _ _ _ : World.ownsRow _ _ _ _ _ _ _), Below.refl _ _⟩
        · rw [shareF_yes HB.out hl h0]
          have HV := Lib.hid (fun k hk => shV_in hc hu h0 k hk)
          have HL := Lib.hid (shL_in (c := c) hu h0)
          have HD := Lib.hid (shD_in hc hu h0 gs.length (Nat.le_refl _))
          have HLE : Hid (c - (lst (shV c gs) gs.length).sum = shL c gs) := Lib.hid rfl
          have HAB : Hid (gs.sum ≤ 5000 * (gs.length : Int)) := Lib.hid (by
            have := (pre_in hu gs.length (Nat.le_refl _)).2
            rwa [sum_all] at this)
          have hn0 : 0 < gs.length := by
            rcases Nat.eq_zero_or_pos gs.length with e | e
            · rw [List.length_eq_zero_iff.1 e] at h0
              simp at h0
            · exact e
          obtain ⟨b, off, cap, rfl, hcell⟩ := h.pos hn0
          have hbw : b < w.heap.size := World.block_lt_of_cell? w _ (hcell 0 hn0)
          clear hn0
          obtain ⟨R, hmk, hzr⟩ := make_zeros gs.length hn
          obtain ⟨n, hln⟩ : ∃ n, n = gs.length := ⟨_, rfl⟩
          rw [← hln] at HU HI HSU HV HL HLE HD HAB hcell hmk hzr hl hn ⊢
          have hnp : 0 < n := by
            have := HL.out
            omega
          have HC := Lib.hid hcell
          have HZ := Lib.hid hzr
          clear hcell hln hzr h hu HB hc
          obtain ⟨A, hA⟩ : ∃ A, A = gs.sum := ⟨_, rfl⟩
          rw [← hA] at HV HSU HAB h0
          clear hA
          obtain ⟨S, hS⟩ : ∃ S, S = shV c gs := ⟨_, rfl⟩
          obtain ⟨Q, hQ⟩ : ∃ Q, Q = shR c gs := ⟨_, rfl⟩
          obtain ⟨L, hL⟩ : ∃ L, L = shL c gs := ⟨_, rfl⟩
          rw [← hS] at HV HLE HD ⊢
          rw [← hQ] at HV ⊢
          rw [← hL] at HL HLE ⊢
          clear hS hQ hL
          have hl2 : ¬ (60 : Int) < (n : Int) := by omega
          have hA0 : (A == 0) = false := by rw [beq_eq_false_iff_ne]; exact h0
          have HSS := Lib.hid (up_lst (f := S) (n := n) fun j hj => (HV.out j hj).2.2.1)
          have HAP := Lib.hid h0
          obtain ⟨W0, hW0⟩ : ∃ W0, W0 = ((w.alloc (.cells R 2)).alloc (.cells R 2)).drew := ⟨_, rfl⟩
          have T0 : Hid (Below w.heap.size w W0) := Lib.hid (by rw [hW0]; exact (((Below.refl _ _).alloc (Nat.le_refl _) _).alloc (by simp) _).drew)
          have Z1 : Hid (Own W0 w.heap.size (.slice (some ⟨w.heap.size, 0, none⟩) n n) (List.replicate n 0)) := Lib.hid (by
            rw [hW0]
            exact ((HZ.out w).below (((Below.refl _ _).alloc (Nat.le_refl _) (.cells R 2)).drew)))
          have Z2 : Hid (Own W0 w.heap.size (.slice (some ⟨w.heap.size + 1, 0, none⟩) n n) (List.replicate n 0)) := Lib.hid (by
            rw [hW0]
            have := ((HZ.out (w.alloc (.cells R 2))).mono (show w.heap.size ≤ _ by simp)).below ((Below.refl _ _).drew)
            rwa [World.size_alloc] at this)
          have HW0 := Lib.hid hW0
          clear h0 hW0
          go_enter Try.func37, Try.ntmps37
          go_wp2_with fail
          refine (HU.out _ HI.out).mono ?_
          rintro e w1 ⟨rfl, rfl⟩
          go_wp2_with fail
          refine (HSU.out _ HI.out).mono ?_
          rintro e w1 ⟨rfl, rfl⟩
          go_wp2_with fail
          go_region
          · rw [← HW0.out]
            have Y0 := Z1
            have Y1 := Z2
            rw [← fill_begin S n] at Y0
            rw [← fill_begin Q n] at Y1
            clear hmk Z1 Z2
            go_wp2_with fail
            go_loopw [37] (fun i wr => ∃ k : Nat, k ≤ n ∧ i = .int .i64 k ∧ Hid (Own wr w.heap.size (.slice (some ⟨w.heap.size, 0, none⟩) n n) (fill (lst S n) k)) ∧ Hid (Own wr w.heap.size (.slice (some ⟨w.heap.size + 1, 0, none⟩) n n) (fill (lst Q n) k)) ∧ Hid (Below w.heap.size w wr)) (fun i _ => n - (intOf i).toNat)
            case atStart => exact ⟨0, Nat.zero_le _, rfl, Y0, Y1, T0⟩
            case round =>
              clear Y0 Y1 T0
              obtain ⟨k, hk, rfl, hA, hB, hBl⟩ := hrel
              by_cases hlt : k < n
              · have hki : (k : Int) < (n : Int) := by omega
                have c1 := (hBl.out.cell (p := ⟨b, _, none⟩) hbw).trans (HC.out k hlt)
                obtain ⟨⟨g0, g1⟩, ⟨m0, m1⟩, ⟨s0, s1⟩, ⟨q0, q1⟩, eS, eQ⟩ := HV.out k hlt
                have hab := HAB.out
                have rA := hA.out.row
                have rB := hB.out.row
                rw [fill_len S hk] at rA
                rw [fill_len Q hk] at rB
                have d0 := (rA.cellAt k (by omega)).trans (cellOf (by rw [fill_len S hk]; exact hlt))
                have f0 := rA.frozenAt k
                have rB1 := rB.kept (grownBy_setS wr (w.heap.size) k (.int .i64 (S k))) (.inr (by simp [Value.ownBlock]))
                have d1 := (rB1.cellAt k (by omega)).trans (cellOf (by rw [fill_len Q hk]; exact hlt))
                have f1 := rB1.frozenAt k
                have sA := ((rA.stored k (Value.int .i64 (S k))).1).kept (grownBy_setS _ (w.heap.size + 1) k (.int .i64 (Q k))) (.inr (by simp [Value.ownBlock]))
                have sB := (rB1.stored k (Value.int .i64 (Q k))).1
                rw [← List.map_set, fill_lst S hlt] at sA
                rw [← List.map_set, fill_lst Q hlt] at sB
                have oA : Hid (Own ((wr.setCell ⟨w.heap.size, k, none⟩ (.int .i64 (S k))).setCell ⟨w.heap.size + 1, k, none⟩ (.int .i64 (Q k))).drew w.heap.size (.slice (some ⟨w.heap.size, 0, none⟩) n n) (fill (lst S n) (k + 1))) := Lib.hid (by
                  show World.ownsRow _ _ _ _ _ _ _
                  rw [fill_len S hlt]
                  exact sA.kept (row := none) (drew_grownS _) (.inr (by simp [Value.ownBlock])))
                have oB : Hid (Own ((wr.setCell ⟨w.heap.size, k, none⟩ (.int .i64 (S k))).setCell ⟨w.heap.size + 1, k, none⟩ (.int .i64 (Q k))).drew w.heap.size (.slice (some ⟨w.heap.size + 1, 0, none⟩) n n) (fill (lst Q n) (k + 1))) := Lib.hid (by
                  show World.ownsRow _ _ _ _ _ _ _
                  rw [fill_len Q hlt]
                  exact sB.kept (row := none) (drew_grownS _) (.inr (by simp [Value.ownBlock])))
                have oT := Lib.hid (((hBl.out.setCell (p := ⟨w.heap.size, k, none⟩) (by simp) (.int .i64 (S k))).setCell (p := ⟨w.heap.size + 1, k, none⟩) (by simp) (.int .i64 (Q k))).drew)
                have u1 : ∀ [Inhabited Nat], IntKind.i64.wrap (c * gs.getD k 0) = c * gs.getD k 0 := by intro _; exact (IntWalk.i64_in _ (by omega)).trans (by omega)
                have u2 : ∀ [Inhabited Nat], wrap64 (c * gs.getD k 0) = c * gs.getD k 0 := by intro _; exact (IntWalk.wrap64_in _ (by omega)).trans (by omega)
                have u3 : ∀ [Inhabited Nat], IntKind.i64.wrap ((c * gs.getD k 0).tdiv A) = S k := by intro _; rw [eS]; exact (IntWalk.i64_in _ (by omega)).trans (by omega)
                have u4 : ∀ [Inhabited Nat], wrap64 ((c * gs.getD k 0).tdiv A) = S k := by intro _; rw [eS]; exact (IntWalk.wrap64_in _ (by omega)).trans (by omega)
                have u5 : ∀ [Inhabited Nat], IntKind.i64.wrap ((c * gs.getD k 0).tmod A) = Q k := by intro _; rw [eQ]; exact (IntWalk.i64_in _ (by omega)).trans (by omega)
                have u6 : ∀ [Inhabited Nat], wrap64 ((c * gs.getD k 0).tmod A) = Q k := by intro _; rw [eQ]; exact (IntWalk.wrap64_in _ (by omega)).trans (by omega)
                have eM : c * gs.getD k 0 % A = Q k := (Int.tmod_eq_emod_of_nonneg m0).symm.trans eQ
                clear hA hB hBl rA rB rB1 sA sB eS eQ
                generalize S k = sk at *
                generalize Q k = qk at *
                generalize gs.getD k 0 = gk at *
                go_wp2_with fail
                go_region
                all_goals
                  go_wp2_with fail
                  go_roundw
                  case rel => exact ⟨k + 1, by omega, by go_num, oA, oB, oT⟩
                  case measure => simp [intOf]; omega
              · have hkn : k = n := by omega
                have HA := Lib.hid hA.out
                have HB := Lib.hid hB.out
                rw [hkn, fill_end] at HA HB
                have HT := Lib.hid hBl.out
                clear hA hB hBl
                have HSM : Hid (Calls Try.prog 54 #[.slice (some ⟨w.heap.size, 0, none⟩) n n] wr fun e w' => e = .returned (.int .i64 (lst S n).sum) ∧ wr = w') := Lib.hid (sumOf_any _ _ wr HA.out.ints (by rw [lst_length]; exact hn) HSS.out)
                have hd := HD.out
                have hle := HLE.out
                have hLL := HL.out
                have HGV := Lib.hid (giveLeft_any (w.heap.size) n (w.heap.size + 1) n w.heap.size S Q n L wr HA.out (fun j hj => (by
                  have r := HB.out.row
                  rw [lst_length] at r
                  have := (r.cellAt j (by omega)).trans (cellOf (by rw [lst_length]; exact hj))
                  rwa [lst_get hj] at this)) (by simp) (HB.out.lt (w.heap.size + 1) rfl).2 hn (fun j hj => (HV.out j hj).2.2.1))
                have HSZ := Lib.hid HT.out.size
                generalize (lst S n).sum = sm at *
                subst hkn
                have u1 : ∀ [Inhabited Nat], IntKind.i64.wrap (c - sm) = L := by intro _; exact (IntWalk.i64_in _ (by omega)).trans (by omega)
                have u2 : ∀ [Inhabited Nat], wrap64 (c - sm) = L := by intro _; exact (IntWalk.wrap64_in _ (by omega)).trans (by omega)
                go_wp2_with fail
                refine HSM.out.mono ?_
                rintro e w2 ⟨rfl, rfl⟩
                go_wp2_with fail
                refine HGV.out.mono ?_
                rintro e w3 ⟨rfl, own, hgr⟩
                have HO := Lib.hid own
                have HT3 := Lib.hid (HT.out.grown hgr HSZ.out (fun j hj => by cases hj; simp))
                clear own hgr
                go_wp2_with fail
                go_returns
                exact ⟨_, rfl, HO.out, HT3.out⟩
          · rw [← HW0.out]
            have Y0 := Z2
            have Y1 := Z1
            rw [← fill_begin S n] at Y0
            rw [← fill_begin Q n] at Y1
            clear hmk Z1 Z2
            go_wp2_with fail
            go_loopw [37] (fun i wr => ∃ k : Nat, k ≤ n ∧ i = .int .i64 k ∧ Hid (Own wr w.heap.size (.slice (some ⟨w.heap.size + 1, 0, none⟩) n n) (fill (lst S n) k)) ∧ Hid (Own wr w.heap.size (.slice (some ⟨w.heap.size, 0, none⟩) n n) (fill (lst Q n) k)) ∧ Hid (Below w.heap.size w wr)) (fun i _ => n - (intOf i).toNat)
            case atStart => exact ⟨0, Nat.zero_le _, rfl, Y0, Y1, T0⟩
            case round =>
              clear Y0 Y1 T0
              obtain ⟨k, hk, rfl, hA, hB, hBl⟩ := hrel
              by_cases hlt : k < n
              · have hki : (k : Int) < (n : Int) := by omega
                have c1 := (hBl.out.cell (p := ⟨b, _, none⟩) hbw).trans (HC.out k hlt)
                obtain ⟨⟨g0, g1⟩, ⟨m0, m1⟩, ⟨s0, s1⟩, ⟨q0, q1⟩, eS, eQ⟩ := HV.out k hlt
                have hab := HAB.out
                have rA := hA.out.row
                have rB := hB.out.row
                rw [fill_len S hk] at rA
                rw [fill_len Q hk] at rB
                have d0 := (rA.cellAt k (by omega)).trans (cellOf (by rw [fill_len S hk]; exact hlt))
                have f0 := rA.frozenAt k
                have rB1 := rB.kept (grownBy_setS wr (w.heap.size + 1) k (.int .i64 (S k))) (.inr (by simp [Value.ownBlock]))
                have d1 := (rB1.cellAt k (by omega)).trans (cellOf (by rw [fill_len Q hk]; exact hlt))
                have f1 := rB1.frozenAt k
                have sA := ((rA.stored k (Value.int .i64 (S k))).1).kept (grownBy_setS _ (w.heap.size) k (.int .i64 (Q k))) (.inr (by simp [Value.ownBlock]))
                have sB := (rB1.stored k (Value.int .i64 (Q k))).1
                rw [← List.map_set, fill_lst S hlt] at sA
                rw [← List.map_set, fill_lst Q hlt] at sB
                have oA : Hid (Own ((wr.setCell ⟨w.heap.size + 1, k, none⟩ (.int .i64 (S k))).setCell ⟨w.heap.size, k, none⟩ (.int .i64 (Q k))).drew w.heap.size (.slice (some ⟨w.heap.size + 1, 0, none⟩) n n) (fill (lst S n) (k + 1))) := Lib.hid (by
                  show World.ownsRow _ _ _ _ _ _ _
                  rw [fill_len S hlt]
                  exact sA.kept (row := none) (drew_grownS _) (.inr (by simp [Value.ownBlock])))
                have oB : Hid (Own ((wr.setCell ⟨w.heap.size + 1, k, none⟩ (.int .i64 (S k))).setCell ⟨w.heap.size, k, none⟩ (.int .i64 (Q k))).drew w.heap.size (.slice (some ⟨w.heap.size, 0, none⟩) n n) (fill (lst Q n) (k + 1))) := Lib.hid (by
                  show World.ownsRow _ _ _ _ _ _ _
                  rw [fill_len Q hlt]
                  exact sB.kept (row := none) (drew_grownS _) (.inr (by simp [Value.ownBlock])))
                have oT := Lib.hid (((hBl.out.setCell (p := ⟨w.heap.size + 1, k, none⟩) (by simp) (.int .i64 (S k))).setCell (p := ⟨w.heap.size, k, none⟩) (by simp) (.int .i64 (Q k))).drew)
                have u1 : ∀ [Inhabited Nat], IntKind.i64.wrap (c * gs.getD k 0) = c * gs.getD k 0 := by intro _; exact (IntWalk.i64_in _ (by omega)).trans (by omega)
                have u2 : ∀ [Inhabited Nat], wrap64 (c * gs.getD k 0) = c * gs.getD k 0 := by intro _; exact (IntWalk.wrap64_in _ (by omega)).trans (by omega)
                have u3 : ∀ [Inhabited Nat], IntKind.i64.wrap ((c * gs.getD k 0).tdiv A) = S k := by intro _; rw [eS]; exact (IntWalk.i64_in _ (by omega)).trans (by omega)
                have u4 : ∀ [Inhabited Nat], wrap64 ((c * gs.getD k 0).tdiv A) = S k := by intro _; rw [eS]; exact (IntWalk.wrap64_in _ (by omega)).trans (by omega)
                have u5 : ∀ [Inhabited Nat], IntKind.i64.wrap ((c * gs.getD k 0).tmod A) = Q k := by intro _; rw [eQ]; exact (IntWalk.i64_in _ (by omega)).trans (by omega)
                have u6 : ∀ [Inhabited Nat], wrap64 ((c * gs.getD k 0).tmod A) = Q k := by intro _; rw [eQ]; exact (IntWalk.wrap64_in _ (by omega)).trans (by omega)
                have eM : c * gs.getD k 0 % A = Q k := (Int.tmod_eq_emod_of_nonneg m0).symm.trans eQ
                clear hA hB hBl rA rB rB1 sA sB eS eQ
                generalize S k = sk at *
                generalize Q k = qk at *
                generalize gs.getD k 0 = gk at *
                go_wp2_with fail
                go_region
                all_goals
                  go_wp2_with fail
                  go_roundw
                  case rel => exact ⟨k + 1, by omega, by go_num, oA, oB, oT⟩
                  case measure => simp [intOf]; omega
              · have hkn : k = n := by omega
                have HA := Lib.hid hA.out
                have HB := Lib.hid hB.out
                rw [hkn, fill_end] at HA HB
                have HT := Lib.hid hBl.out
                clear hA hB hBl
                have HSM : Hid (Calls Try.prog 54 #[.slice (some ⟨w.heap.size + 1, 0, none⟩) n n] wr fun e w' => e = .returned (.int .i64 (lst S n).sum) ∧ wr = w') := Lib.hid (sumOf_any _ _ wr HA.out.ints (by rw [lst_length]; exact hn) HSS.out)
                have hd := HD.out
                have hle := HLE.out
                have hLL := HL.out
                have HGV := Lib.hid (giveLeft_any (w.heap.size + 1) n (w.heap.size) n w.heap.size S Q n L wr HA.out (fun j hj => (by
                  have r := HB.out.row
                  rw [lst_length] at r
                  have := (r.cellAt j (by omega)).trans (cellOf (by rw [lst_length]; exact hj))
                  rwa [lst_get hj] at this)) (by simp) (HB.out.lt (w.heap.size) rfl).2 hn (fun j hj => (HV.out j hj).2.2.1))
                have HSZ := Lib.hid HT.out.size
                generalize (lst S n).sum = sm at *
                subst hkn
                have u1 : ∀ [Inhabited Nat], IntKind.i64.wrap (c - sm) = L := by intro _; exact (IntWalk.i64_in _ (by omega)).trans (by omega)
                have u2 : ∀ [Inhabited Nat], wrap64 (c - sm) = L := by intro _; exact (IntWalk.wrap64_in _ (by omega)).trans (by omega)
                go_wp2_with fail
                refine HSM.out.mono ?_
                rintro e w2 ⟨rfl, rfl⟩
                go_wp2_with fail
                refine HGV.out.mono ?_
                rintro e w3 ⟨rfl, own, hgr⟩
                have HO := Lib.hid own
                have HT3 := Lib.hid (HT.out.grown hgr HSZ.out (fun j hj => by cases hj; simp))
                clear own hgr
                go_wp2_with fail
                go_returns
                exact ⟨_, rfl, HO.out, HT3.out⟩
end Go.Proofs.Ytklgklkfolbjcaa
