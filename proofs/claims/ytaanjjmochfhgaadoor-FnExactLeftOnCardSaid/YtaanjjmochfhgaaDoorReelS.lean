/-
  No statement is proved here: what is wrong with strands and meets, and whether strands can be on a reel, as the document's own text tells it; condition: the numbers are within their kinds, at most 1048576 strands.
-/
import Derived.Test.YtaanjjmochfhgaaDoorMay
import Derived.Deep.RegionWith
namespace Go.Proofs.YtaanjjmochfhgaaDoor
open Go.ChangeShapes Go.WideShapes Go.ChangeAt Go.RowKit

/-- What is wrong with meets and strands, where a number is fine or not. -/
def askS (m : Nat → Int) (ss : List Sn) (fine : Bool) : Int := if (meetsB m && allS ss) = true then (if ss.length ≤ 8 then (if fine = true then 0 else 2) else 3) else 1
theorem askS_zero {m : Nat → Int} {ss : List Sn} {fine : Bool} (h : askS m ss fine = 0) : meetsB m = true ∧ allS ss = true ∧ ss.length ≤ 8 ∧ fine = true := by
  unfold askS at h
  split at h
  · rename_i h1
    rw [Bool.and_eq_true] at h1
    split at h
    · split at h
      · exact ⟨h1.1, h1.2, by assumption, by assumption⟩
      · omega
    · omega
  · omega

set_option maxRecDepth 100000 in
set_option maxHeartbeats 2000000 in
theorem l04Asked_any (m : Nat → Int) (b : Nat) (v : Value) (ss : List Sn) (fine : Bool) (w : World) (hM : MAt w b m) (h8 : Bytes6 m) (h : Strands w v ss) (hn : ss.length ≤ 1048576) :
    Calls Tryd.prog 24 #[.pointer (some ⟨b, 0, none⟩), v, .bool fine] w fun e w' => e = .returned (.int .i64 (askS m ss fine)) ∧ Below w.heap.size w w' := by
  have HM := Lib.hid (l04Meets_any m b w hM h8)
  have HV := Lib.hid fun wx hx => l04Strands_any v ss wx hx hn
  have HS := Lib.hid h
  obtain ⟨a0, c0, rfl⟩ := h.len
  clear h hM h8
  cases h1 : meetsB m with
  | false =>
    rw [show askS m ss fine = 1 by unfold askS; rw [h1]; rfl]
    rw [h1] at HM
    clear h1 HV
    generalize ss.length = n at *
    go_enter Tryd.func24, Tryd.ntmps24
    go_wp2_with fail
    refine HM.out.mono ?_
    rintro e w1 ⟨rfl, hB⟩
    go_wp2
    go_ret
    exact ⟨rfl, hB⟩
  | true =>
    rw [h1] at HM
    cases h2 : allS ss with
    | false =>
      rw [show askS m ss fine = 1 by unfold askS; rw [h2]; simp]
      rw [h2] at HV
      clear h1 h2
      go_enter Tryd.func24, Tryd.ntmps24
      go_wp2_with fail
      refine HM.out.mono ?_
      rintro e w1 ⟨rfl, hB⟩
      have B1 := Lib.hid hB
      clear hB
      go_wp2_with fail
      refine (HV.out _ (HS.out.below B1.out)).mono ?_
      rintro e w' ⟨rfl, rfl⟩
      go_wp2
      go_ret
      exact ⟨rfl, B1.out⟩
    | true =>
      rw [h2] at HV
      by_cases h3 : ss.length ≤ 8
      · have h3' : ¬ (8 : Int) < (ss.length : Int) := by omega
        cases fine with
        | false =>
          rw [show askS m ss false = 2 by unfold askS; rw [h1, h2]; simp [h3]]
          clear h1 h2
          go_enter Tryd.func24, Tryd.ntmps24
          go_wp2_with fail
          refine HM.out.mono ?_
          rintro e w1 ⟨rfl, hB⟩
          have B1 := Lib.hid hB
          clear hB
          go_wp2_with fail
          refine (HV.out _ (HS.out.below B1.out)).mono ?_
          rintro e w' ⟨rfl, rfl⟩
          go_wp2
          go_ret
          exact ⟨rfl, B1.out⟩
        | true =>
          rw [show askS m ss true = 0 by unfold askS; rw [h1, h2]; simp [h3]]
          clear h1 h2
          go_enter Tryd.func24, Tryd.ntmps24
          go_wp2_with fail
          refine HM.out.mono ?_
          rintro e w1 ⟨rfl, hB⟩
          have B1 := Lib.hid hB
          clear hB
          go_wp2_with fail
          refine (HV.out _ (HS.out.below B1.out)).mono ?_
          rintro e w' ⟨rfl, rfl⟩
          go_wp2
          go_ret
          exact ⟨rfl, B1.out⟩
      · have h3' : (8 : Int) < (ss.length : Int) := by omega
        rw [show askS m ss fine = 3 by unfold askS; rw [h1, h2]; simp [h3]]
        clear h1 h2
        go_enter Tryd.func24, Tryd.ntmps24
        go_wp2_with fail
        refine HM.out.mono ?_
        rintro e w1 ⟨rfl, hB⟩
        have B1 := Lib.hid hB
        clear hB
        go_wp2_with fail
        refine (HV.out _ (HS.out.below B1.out)).mono ?_
        rintro e w' ⟨rfl, rfl⟩
        go_wp2
        go_ret
        exact ⟨rfl, B1.out⟩

/-- The dye of a strand; the length of the first k. -/
def dy (ss : List Sn) (i : Nat) : Nat := (sat ss i).2.toNat
def sumS (ss : List Sn) : Nat → Int
  | 0 => 0
  | k + 1 => sumS ss k + (sat ss k).1
/-- Strands can be on a reel. -/
def onB (m : Nat → Int) (hold : Int) (ss : List Sn) : Bool := ((List.range ss.length).all fun i => (List.range i).all fun k => mayB m (dy ss i) (dy ss k)) && decide (sumS ss ss.length ≤ hold)
theorem onB_no {m : Nat → Int} {hold : Int} {ss : List Sn} {i k : Nat} (hi : i < ss.length) (hk : k < i) (h : mayB m (dy ss i) (dy ss k) = false) : onB m hold ss = false := by
  unfold onB
  rw [Bool.and_eq_false_iff]
  refine .inl ?_
  rw [List.all_eq_false]
  refine ⟨i, List.mem_range.2 hi, ?_⟩
  rw [Bool.not_eq_true, List.all_eq_false]
  exact ⟨k, List.mem_range.2 hk, by rw [h]; simp⟩
theorem onB_all {m : Nat → Int} {hold : Int} {ss : List Sn} (h : ∀ i, i < ss.length → ∀ k, k < i → mayB m (dy ss i) (dy ss k) = true) : onB m hold ss = decide (sumS ss ss.length ≤ hold) := by
  unfold onB
  have e : ((List.range ss.length).all fun i => (List.range i).all fun k => mayB m (dy ss i) (dy ss k)) = true := by
    rw [List.all_eq_true]
    intro i hi
    rw [List.all_eq_true]
    intro k hk
    exact h i (List.mem_range.1 hi) k (List.mem_range.1 hk)
  rw [e, Bool.true_and]
theorem okS_at {s : Sn} (h : okS s = true) : (1 ≤ s.1 ∧ s.1 ≤ 2000) ∧ s.2 < 6 := okS_of (a := s.1) (d := s.2) h
theorem sumS_bd {ss : List Sn} (h : allS ss = true) : ∀ k, k ≤ ss.length → 0 ≤ sumS ss k ∧ sumS ss k ≤ 2000 * (k : Int)
  | 0, _ => by simp [sumS]
  | k + 1, hk => by
    have ih := sumS_bd h k (by omega)
    have := okS_at (allS_get h k (by omega))
    rw [sumS]
    omega

set_option maxRecDepth 100000 in
set_option maxHeartbeats 8000000 in
theorem l04On_any (m : Nat → Int) (b : Nat) (hold : Int) (v : Value) (ss : List Sn) (w : World) (hM : MAt w b m) (h8 : Bytes6 m) (h : Strands w v ss) (hal : allS ss = true) (hn : ss.length ≤ 1048576) :
    Calls Tryd.prog 26 #[.pointer (some ⟨b, 0, none⟩), .int .i64 hold, v] w fun e w' => e = .returned (.bool (onB m hold ss)) ∧ Below w.heap.size w w' := by
  by_cases h0 : ss.length = 0
  · have hx : ss = [] := List.length_eq_zero_iff.1 h0
    subst hx
    obtain ⟨a, cap, rfl⟩ := h.nil
    rw [onB_all (fun i hi => by simp at hi)]
    have e : sumS [] ([] : List Sn).length = 0 := rfl
    rw [e]
    clear h hM
    go_enter Tryd.func26, Tryd.ntmps26
    go_wp2
    go_rounds 1
    go_ret
    exact ⟨rfl, Below.refl _ _⟩
  · obtain ⟨bs, off, cap, rfl, hb, hc⟩ := h.pos (by omega)
    have H16 := Lib.hid h.1
    have HK := Lib.hid fun k hk => okS_at (allS_get hal k hk)
    have JN := Lib.hid fun i k (hi : i < ss.length) (hk : k < i) hh => onB_no (m := m) (hold := hold) hi hk hh
    have JA := Lib.hid fun hh => onB_all (m := m) (hold := hold) (ss := ss) hh
    have HB := Lib.hid (sumS_bd hal)
    have HS := Lib.hid (show ∀ k, sumS ss (k + 1) = sumS ss k + (sat ss k).1 from fun k => rfl)
    have HD := Lib.hid (show ∀ k, k < ss.length → (sat ss k).2 = (dy ss k : Int) ∧ dy ss k < 6 from fun k hk => by
      have h1 := okS_at (allS_get hal k hk)
      have h2 := (h.1 k).2.1
      unfold dy
      omega)
    have HM := Lib.hid fun wx (hx : MAt wx b m) x y da db (ha : da < 6) (hb : db < 6) => l04May_any m b x y da db wx hx h8 ha hb
    have HM0 := Lib.hid hM
    have hbM := World.block_lt_of_cell? w _ (hM 0 (by omega))
    simp only at hbM
    generalize onB m hold ss = out at *
    obtain ⟨n, hln⟩ : ∃ n, n = ss.length := ⟨_, rfl⟩
    rw [← hln] at hc hn h0 HK JN JA HB HD ⊢
    have HC := Lib.hid hc
    have HBM := Lib.hid hbM
    clear hc hln h hal hM hbM
    go_enter Tryd.func26, Tryd.ntmps26
    go_wp2
    go_loopw [7, 8] (fun s i wr => ∃ (k : Nat) (q : Int), k ≤ n ∧ i = .int .i64 k ∧ s = .int .i64 q ∧ Hid (q = sumS ss k) ∧ Hid (∀ a, a < k → ∀ c, c < a → mayB m (dy ss a) (dy ss c) = true) ∧ Hid (Below w.heap.size w wr)) (fun _ i _ => n - (intOf i).toNat)
    case atStart => exact ⟨0, 0, Nat.zero_le _, rfl, rfl, Lib.hid rfl, Lib.hid (fun a ha => by omega), Lib.hid (Below.refl _ _)⟩
    case round =>
      obtain ⟨k, q, hk, rfl, rfl, hq, hP, hE⟩ := hrel
      by_cases hlt : k < n
      · have hki : (k : Int) < (n : Int) := by omega
        obtain ⟨p1, p2⟩ := HC.out k hlt
        have hkk := (HK.out k hlt).1
        have hqb := HB.out k hk
        have hst := HS.out k
        obtain ⟨hd1, hd2⟩ := HD.out k hlt
        rw [hd1] at p2
        rw [← hq.out] at hqb hst
        obtain ⟨x, hx⟩ : ∃ x, x = (sat ss k).1 := ⟨_, rfl⟩
        rw [← hx] at p1 hkk hst
        have c1 := (hE.out.cell (p := ⟨bs, off + k * 2, none⟩) hb).trans p1
        have hq2 := Lib.hid hst.symm
        obtain ⟨d, hd⟩ : ∃ d, d = dy ss k := ⟨_, rfl⟩
        rw [← hd] at p2 hd2
        have HDk := Lib.hid hd
        have P1 := Lib.hid p1
        have P2 := Lib.hid p2
        have HE2 := Lib.hid hE.out
        clear hst hx hd hd1 p1 p2 hq
        go_wp2_with fail
        go_loopw [9] (fun j wz => ∃ jn : Nat, jn ≤ k ∧ j = .int .i64 jn ∧ Hid (∀ c, c < jn → mayB m d (dy ss c) = true) ∧ Hid (Below w.heap.size w wz)) (fun j _ => k - (intOf j).toNat)
        case atStart => exact ⟨0, Nat.zero_le _, rfl, Lib.hid (fun c hc => by omega), HE2⟩
        case round =>
          clear hE HE2 c1
          obtain ⟨j, hj, rfl, hJ, hE⟩ := hrel
          by_cases hjl : j < k
          · have hjk : (j : Int) < (k : Int) := by omega
            have hjn : (j : Int) < (n : Int) := by omega
            obtain ⟨p3, p4⟩ := HC.out j (by omega)
            obtain ⟨hd3, hd4⟩ := HD.out j (by omega)
            rw [hd3] at p4
            have c1 := (hE.out.cell (p := ⟨bs, off + k * 2, none⟩) hb).trans P1.out
            have c2 := (hE.out.cell (p := ⟨bs, off + k * 2 + 1, none⟩) hb).trans P2.out
            have c3 := (hE.out.cell (p := ⟨bs, off + j * 2, none⟩) hb).trans p3
            have c4 := (hE.out.cell (p := ⟨bs, off + j * 2 + 1, none⟩) hb).trans p4
            have jn := JN.out k j hlt hjl
            rw [← HDk.out] at jn
            have MA := Lib.hid (HM0.out.below hE.out HBM.out)
            obtain ⟨y, hy⟩ : ∃ y, y = (sat ss j).1 := ⟨_, rfl⟩
            rw [← hy] at c3
            obtain ⟨dj, hdj⟩ : ∃ dj, dj = dy ss j := ⟨_, rfl⟩
            rw [← hdj] at c4 hd4 jn
            have HJ := Lib.hid hdj
            have HC1 := Lib.hid fun wx hx => HM.out wx hx x y d dj hd2 hd4
            clear hy hdj hd3 p3 p4
            cases hm : mayB m d dj with
            | false =>
              rw [hm] at HC1
              have HO := Lib.hid (jn hm)
              clear hm jn
              go_wp2_with fail
              go_region_with (first
                | (go_at_call 43; refine (HC1.out wr.drew (show MAt wr.drew b m from MA.out)).mono ?_; rintro e w3 ⟨rfl, hB3⟩; have H3 := Lib.hid (hE.out.drew.trans (hB3.mono hE.out.size)); clear hB3))
              all_goals
                clear c1 c2 c3 c4
                go_wp2
                go_ret
                exact ⟨ret_bool HO.out.symm, H3.out⟩
            | true =>
              rw [hm] at HC1
              have HJ2 := Lib.hid (show ∀ c, c < j + 1 → mayB m d (dy ss c) = true from fun c hc => by
                by_cases hcj : c = j
                · subst hcj; rw [← HJ.out]; exact hm
                · exact hJ.out c (by omega))
              clear hm jn
              go_wp2_with fail
              go_region_with (first
                | (go_at_call 43; refine (HC1.out wr.drew (show MAt wr.drew b m from MA.out)).mono ?_; rintro e w3 ⟨rfl, hB3⟩; have H3 := Lib.hid (hE.out.drew.trans (hB3.mono hE.out.size)); clear hB3))
              all_goals
                clear c1 c2 c3 c4
                go_wp2
                go_roundw
                case rel => exact ⟨j + 1, by omega, by go_num, HJ2, H3⟩
                case measure => simp [intOf]; omega
          · have hP2 := Lib.hid (show ∀ a, a < k + 1 → ∀ c, c < a → mayB m (dy ss a) (dy ss c) = true from fun a ha => by
              by_cases hak : a = k
              · subst hak; rw [← HDk.out]; exact fun c hc => hJ.out c (by omega)
              · exact hP.out a (by omega))
            go_wp2
            go_roundw
            case rel => exact ⟨k + 1, q + x, by omega, by go_num, by go_num, hq2, hP2, hE⟩
            case measure => simp [intOf]; omega
      · have hkn : k = n := by omega
        subst hkn
        have HO := Lib.hid (JA.out hP.out)
        rw [← hq.out] at HO
        go_wp2
        go_ret
        exact ⟨ret_bool HO.out.symm, hE.out⟩
end Go.Proofs.YtaanjjmochfhgaaDoor
