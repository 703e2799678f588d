/-
  No statement is proved here: what CheckReels answers, as the document's own text tells it; condition: the numbers are within their kinds, at most 1048576 strands and numbers.
-/
import Derived.Test.YtaanjjmochfhgaaDoorCheckRI
import Derived.Test.YtaanjjmochfhgaaDoorWithS
import Derived.Test.YtaanjjmochfhgaaDoorOnReelS
namespace Go.Proofs.YtaanjjmochfhgaaDoor
open Go.ChangeShapes Go.WideShapes Go.ChangeAt Go.RowKit

theorem Box1.mat {w W : World} {m : Nat → Int} (h : Box1 w W m) : MAt W w.heap.size m := fun k hk => by
  obtain ⟨h0, h1, h2, h3, h4, h5, _, _⟩ := h
  rcases (show k = 0 ∨ k = 1 ∨ k = 2 ∨ k = 3 ∨ k = 4 ∨ k = 5 by omega) with rfl | rfl | rfl | rfl | rfl | rfl
  · exact h0
  · exact h1
  · exact h2
  · exact h3
  · exact h4
  · exact h5
theorem subS_short (r : Int) {ss : List Sn} {ns : List Int} (hl : ns.length = ss.length) (h8 : ss.length ≤ 8) : (subS ss ns r).length ≤ 8 := by
  rw [subS_len r ss ns hl]
  have : ∀ n, cntS ns r n ≤ n := by
    intro n
    induction n with
    | zero => exact Nat.le_refl _
    | succ n ih => rw [cntS]; split <;> omega
  have := this ss.length
  omega
theorem windB_on {m : Nat → Int} {hold : Int} {ss : List Sn} {ns : List Int} (h8 : Bytes6 m) (hmB : meetsB m = true) (hal : allS ss = true) (hst : ∀ j, IsSt (sat ss j)) (hh : 0 ≤ hold) (hl : ns.length = ss.length) :
    rightB m hold ss ns = true ↔ ∀ k, k < ss.length → onB m hold (subS ss ns (ns.getD k 0)) = true :=
  rightB_iff (hold := hold) h8 hmB hal hh (ns := ns) (fun r k hk => by
    obtain ⟨i, h1, h2, h3⟩ := subS_from r ss _ hl k hk
    have h4 := (subS_at r ss _ hl i h1 h2).2
    rw [h3] at h4
    unfold dy
    rw [h4]
    exact (sat_dy hal hst i h1).1) hl
theorem windB_no1 {m : Nat → Int} {hold : Int} {ss : List Sn} {ns : List Int} {k : Nat} (hk : k < ns.length) (h : inB (ns.getD k 0) 0 7 = false) : windB m hold ss ns = false := by
  unfold windB
  rw [upTo_no ns 7 k hk h]
  simp
theorem windB_no3 {m : Nat → Int} {hold : Int} {ss : List Sn} {ns : List Int} (h : ¬ ns.length = ss.length) : windB m hold ss ns = false := by
  unfold windB
  rw [decide_eq_false h]
  rfl
theorem windB_no2 {m : Nat → Int} {hold : Int} {ss : List Sn} {ns : List Int} (h8 : Bytes6 m) (hmB : meetsB m = true) (hal : allS ss = true) (hst : ∀ j, IsSt (sat ss j)) (hh : 0 ≤ hold) (hl : ns.length = ss.length) {k : Nat} (hk : k < ns.length)
    (h : onB m hold (subS ss ns (ns.getD k 0)) = false) : windB m hold ss ns = false := by
  cases hr : rightB m hold ss ns with
  | false => unfold windB; rw [hr]; simp
  | true =>
    have := (windB_on h8 hmB hal hst hh hl).1 hr k (by omega)
    rw [h] at this
    cases this
theorem windB_yes {m : Nat → Int} {hold : Int} {ss : List Sn} {ns : List Int} (h8 : Bytes6 m) (hmB : meetsB m = true) (hal : allS ss = true) (hst : ∀ j, IsSt (sat ss j)) (hh : 0 ≤ hold) (hl : ns.length = ss.length)
    (h : ∀ k, k < ns.length → inB (ns.getD k 0) 0 7 = true ∧ onB m hold (subS ss ns (ns.getD k 0)) = true) : windB m hold ss ns = true := by
  have h1 : upTo ns 7 = true := by
    unfold upTo
    rw [List.all_eq_true]
    intro z hz
    obtain ⟨k, hk, rfl⟩ := List.mem_iff_getElem.1 hz
    have := (h k hk).1
    rwa [List.getD, List.getElem?_eq_getElem hk] at this
  have h2 := (windB_on h8 hmB hal hst hh hl).2 (fun k hk => (h k (by omega)).2)
  unfold windB
  rw [h1, h2, decide_eq_true hl]
  rfl

set_option maxRecDepth 100000 in
set_option maxHeartbeats 4000000 in
theorem specCheckR_any (m : Nat → Int) (hold : Int) (v u : Value) (ss : List Sn) (ns : List Int) (w : World) (h8 : Bytes6 m) (h : Strands w v ss) (hn : ss.length ≤ 1048576) (hN : Ints w u ns) (hnn : ns.length ≤ 1048576) :
    Calls Tryd.prog 13 #[mv m, .int .i64 hold, v, u] w fun e w' => e = .returned (.tuple #[.bool (checkRF m hold ss ns).1, .int .i64 (checkRF m hold ss ns).2]) ∧ Below w.heap.size w w' := by
  have HH := Lib.hid fun wx => l04Hold_any hold wx
  have X0 := Lib.hid (box1_made w 27 m)
  have HA := Lib.hid fun wx (hm : MAt wx w.heap.size m) hx => l04Asked_any m w.heap.size v ss (inB hold 1 2000) wx hm h8 hx hn
  have HV := Lib.hid h
  have HN := Lib.hid hN
  by_cases h0 : askS m ss (inB hold 1 2000) = 0
  · rw [show checkRF m hold ss ns = (windB m hold ss ns, 0) from if_pos h0]
    obtain ⟨hmB, hal, hl8, hin⟩ := askS_zero h0
    have hh := inB_of hin
    have hst : ∀ j, IsSt (sat ss j) := h.1
    rw [h0] at HA
    by_cases hl : ns.length = ss.length
    · have J1 := Lib.hid fun k hk hf => windB_no1 (m := m) (hold := hold) (ss := ss) (ns := ns) (k := k) hk hf
      have J2 := Lib.hid fun k hk hf => windB_no2 (hold := hold) (ss := ss) (ns := ns) h8 hmB hal hst (by omega) hl (k := k) hk hf
      have J3 := Lib.hid (windB_yes (hold := hold) (ss := ss) (ns := ns) h8 hmB hal hst (by omega) hl)
      have HW := Lib.hid fun x wx hx hy => with_any v u ss ns x wx hx hy (by omega) hnn
      have HO := Lib.hid fun x out wx (hm : MAt wx w.heap.size m) hx => l04On_any m w.heap.size hold out (subS ss ns x) wx hm h8 hx (subS_all x hl hal) (by have := subS_short x hl hl8; omega)
      generalize windB m hold ss ns = r at *
      obtain ⟨a0, c0, rfl⟩ := HV.out.len
      obtain ⟨a1, c1, rfl⟩ : ∃ a c, u = .slice a ns.length c := by
        rcases HN.out with ⟨a, cap, rfl, rfl⟩ | ⟨b, off, cap, rfl, _⟩
        · exact ⟨_, _, rfl⟩
        · exact ⟨_, _, rfl⟩
      have hne : ((ns.length : Int) != (ss.length : Int)) = false := by simp; omega
      unfold mv
      clear h hN h0 hmB hal hl8 hin hh hst h8 hl hn
      generalize inB hold 1 2000 = fine at *
      go_enter Tryd.func13, Tryd.ntmps13
      go_wp2_with fail
      refine (HH.out _).mono ?_
      rintro e w' ⟨rfl, rfl⟩
      go_wp2_with fail
      refine (HA.out _ X0.out.mat (HV.out.below X0.out.under)).mono ?_
      rintro e w1 ⟨rfl, hB⟩
      have X1 := Lib.hid (box1_below X0.out hB)
      clear hB X0 HA HH
      go_wp2_with fail
      clear hne
      obtain ⟨n, hln⟩ : ∃ n, n = ns.length := ⟨_, rfl⟩
      have HLN := Lib.hid hln
      rw [← hln] at hnn HW HN ⊢
      clear hln
      go_loopw [11] (fun i wr => ∃ k : Nat, k ≤ n ∧ i = .int .i64 k ∧ Hid (∀ j, j < k → inB (ns.getD j 0) 0 7 = true ∧ onB m hold (subS ss ns (ns.getD j 0)) = true) ∧ Hid (Box1 w wr m)) (fun i _ => n - (intOf i).toNat)
      case atStart => exact ⟨0, Nat.zero_le _, rfl, Lib.hid (fun j hj => by omega), X1⟩
      case round =>
        clear X1
        obtain ⟨k, hk, rfl, hOk, hX⟩ := hrel
        by_cases hlt : k < n
        · have hki : (k : Int) < (n : Int) := by omega
          obtain ⟨b', off', cz', hv', hcz'⟩ : ∃ b off cap, Value.slice a1 n c1 = .slice (some ⟨b, off, none⟩) n cap ∧ ∀ j, j < n → wr.cell? ⟨b, off + j, none⟩ = some (.int .i64 (ns.getD j 0)) := by
            rcases HN.out.below hX.out.under with ⟨a, cap, h1, h2⟩ | ⟨b, off, cap, h1, _, _, h3⟩
            · rw [h2] at HLN; have := HLN.out; simp at this; omega
            · exact ⟨b, off, cap, by rw [← HLN.out] at h1; exact h1, by rw [HLN.out]; exact h3⟩
          obtain ⟨rfl, rfl⟩ : a1 = some ⟨b', off', none⟩ ∧ c1 = cz' := by simp at hv'; exact ⟨hv'.1, hv'.2⟩
          have q1 := hcz' k hlt
          have j1 := J1.out k (by rw [← HLN.out]; exact hlt)
          have j2 := J2.out k (by rw [← HLN.out]; exact hlt)
          have HNX := Lib.hid (fun (h : inB (ns.getD k 0) 0 7 = true ∧ onB m hold (subS ss ns (ns.getD k 0)) = true) j (hj : j < k + 1) => (show inB (ns.getD j 0) 0 7 = true ∧ onB m hold (subS ss ns (ns.getD j 0)) = true from by
            by_cases hjk : j = k
            · subst hjk; exact h
            · exact hOk.out j (by omega)))
          have HI := Lib.hid fun wx => l04Number_any (ns.getD k 0) wx
          have HWk := Lib.hid (HW.out (ns.getD k 0))
          have HOk := Lib.hid (HO.out (ns.getD k 0))
          clear hv' hcz'
          generalize ns.getD k 0 = x at *
          cases hin : inB x 0 7 with
          | false =>
            rw [hin] at HI
            have HE := Lib.hid (j1 hin)
            clear j1 j2 hin
            go_wp2_with fail
            refine (HI.out _).mono ?_
            rintro e w' ⟨rfl, rfl⟩
            go_wp2
            go_ret2
            exact ⟨ret_may HE.out.symm rfl, hX.out.under⟩
          | true =>
            rw [hin] at HI
            cases hon : onB m hold (subS ss ns x) with
            | false =>
              rw [hon] at HOk
              have HE := Lib.hid (j2 hon)
              clear j1 j2 hin hon
              go_wp2_with fail
              refine (HI.out _).mono ?_
              rintro e w' ⟨rfl, rfl⟩
              go_wp2_with fail
              refine (HWk.out _ (HV.out.below hX.out.under) (HN.out.below hX.out.under)).mono ?_
              rintro e w2 ⟨out, rfl, own, hB⟩
              have X2 := Lib.hid (box1_below hX.out hB)
              have OW := Lib.hid own
              clear hB own q1
              go_wp2_with fail
              refine (HOk.out _ _ X2.out.mat OW.out.strands).mono ?_
              rintro e w3 ⟨rfl, hB⟩
              have X3 := Lib.hid (box1_below X2.out hB)
              clear hB
              go_wp2
              go_ret2
              exact ⟨ret_may HE.out.symm rfl, X3.out.under⟩
            | true =>
              rw [hon] at HOk
              have HE := Lib.hid (HNX.out ⟨hin, hon⟩)
              clear j1 j2 hin hon
              go_wp2_with fail
              refine (HI.out _).mono ?_
              rintro e w' ⟨rfl, rfl⟩
              go_wp2_with fail
              refine (HWk.out _ (HV.out.below hX.out.under) (HN.out.below hX.out.under)).mono ?_
              rintro e w2 ⟨out, rfl, own, hB⟩
              have X2 := Lib.hid (box1_below hX.out hB)
              have OW := Lib.hid own
              clear hB own q1
              go_wp2_with fail
              refine (HOk.out _ _ X2.out.mat OW.out.strands).mono ?_
              rintro e w3 ⟨rfl, hB⟩
              have X3 := Lib.hid (box1_below X2.out hB)
              clear hB
              go_wp2
              go_roundw
              case rel => exact ⟨k + 1, by omega, by go_num, HE, X3⟩
              case measure => simp [intOf]; omega
        · have hkn : k = n := by omega
          subst hkn
          have HE := Lib.hid (J3.out (fun j hj => hOk.out j (by rw [HLN.out]; exact hj)))
          go_wp2
          go_ret2
          exact ⟨ret_may HE.out.symm rfl, hX.out.under⟩
    · rw [windB_no3 hl]
      have hne : ((ns.length : Int) != (ss.length : Int)) = true := by simp; omega
      obtain ⟨a0, c0, rfl⟩ := HV.out.len
      obtain ⟨a1, c1, rfl⟩ : ∃ a c, u = .slice a ns.length c := by
        rcases HN.out with ⟨a, cap, rfl, rfl⟩ | ⟨b, off, cap, rfl, _⟩
        · exact ⟨_, _, rfl⟩
        · exact ⟨_, _, rfl⟩
      unfold mv
      clear h hN h0 hmB hal hl8 hin hh hst h8 hl hn
      generalize inB hold 1 2000 = fine at *
      go_enter Tryd.func13, Tryd.ntmps13
      go_wp2_with fail
      refine (HH.out _).mono ?_
      rintro e w' ⟨rfl, rfl⟩
      go_wp2_with fail
      refine (HA.out _ X0.out.mat (HV.out.below X0.out.under)).mono ?_
      rintro e w1 ⟨rfl, hB⟩
      have X1 := Lib.hid (box1_below X0.out hB)
      clear hB X0
      go_wp2
      go_ret2
      exact ⟨rfl, X1.out.under⟩
  · rw [show checkRF m hold ss ns = (false, askS m ss (inB hold 1 2000)) from if_neg h0]
    generalize askS m ss (inB hold 1 2000) = c at *
    have hcb : (c != 0) = true := by simp [h0]
    generalize inB hold 1 2000 = fine at *
    unfold mv
    clear h hN h8
    go_enter Tryd.func13, Tryd.ntmps13
    go_wp2_with fail
    refine (HH.out _).mono ?_
    rintro e w' ⟨rfl, rfl⟩
    go_wp2_with fail
    refine (HA.out _ X0.out.mat (HV.out.below X0.out.under)).mono ?_
    rintro e w1 ⟨rfl, hB⟩
    have X1 := Lib.hid (box1_below X0.out hB)
    clear hB X0
    go_wp2
    go_ret2
    exact ⟨rfl, X1.out.under⟩
end Go.Proofs.YtaanjjmochfhgaaDoor
