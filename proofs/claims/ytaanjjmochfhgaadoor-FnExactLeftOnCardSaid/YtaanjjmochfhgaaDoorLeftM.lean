/-
  No statement is proved here: what is left on reels, as numbers; no condition.
-/
import Derived.Test.YtaanjjmochfhgaaDoorCheckRS
namespace Go.Proofs.YtaanjjmochfhgaaDoor
open Go.ChangeShapes Go.WideShapes Go.ChangeAt Go.RowKit

/-- Meets of which each dye may be with all. -/
def m63 : Nat → Int := fun _ => 63
theorem m63_bytes : Bytes6 m63 := fun _ => (show (0 : Int) ≤ 63 ∧ (63 : Int) ≤ 255 from ⟨by omega, by omega⟩)
theorem may63 (a : Nat) {b : Nat} (hb : b < 6) : mayB m63 a b = true := by
  have : b = 0 ∨ b = 1 ∨ b = 2 ∨ b = 3 ∨ b = 4 ∨ b = 5 := by omega
  rcases this with rfl | rfl | rfl | rfl | rfl | rfl <;> rfl
/-- What is left on the first q reels behind the first k strands. -/
def leftR (hold : Int) (ss : List Sn) (ns : List Int) (k q : Nat) : List Int := (List.range q).map fun (j : Nat) => hold - sumS (subS ss ns (j : Int)) (cntS ns (j : Int) k)
theorem leftR_length (hold : Int) (ss : List Sn) (ns : List Int) (k q : Nat) : (leftR hold ss ns k q).length = q := by simp [leftR]
theorem leftR_get {hold : Int} {ss : List Sn} {ns : List Int} {k q r : Nat} (h : r < q) : (leftR hold ss ns k q).getD r 0 = hold - sumS (subS ss ns (r : Int)) (cntS ns (r : Int) k) := by
  simp [leftR, List.getD, h]
theorem leftR_app {hold : Int} {ss : List Sn} {ns : List Int} {k q : Nat} (h0 : ∀ k, 0 ≤ ns.getD k 0) (h : mxS ns k ≤ q) : leftR hold ss ns k q ++ [hold] = leftR hold ss ns k (q + 1) := by
  rw [leftR, leftR, List.range_succ, List.map_append, List.map_cons, List.map_nil, mxS_zero h0 k h]
  simp [sumS]
theorem leftR_set {hold : Int} {ss : List Sn} {ns : List Int} {k q r : Nat} (hl : ns.length = ss.length) (hk : k < ss.length) (hr : ns.getD k 0 = (r : Int)) :
    (leftR hold ss ns k q).set r (hold - sumS (subS ss ns (r : Int)) (cntS ns (r : Int) k) - (sat ss k).1) = leftR hold ss ns (k + 1) q := by
  have e1 := (subS_at (r : Int) ss ns hl k hk hr).2
  apply List.ext_getElem?
  intro j
  rw [List.getElem?_set]
  by_cases hj : r = j
  · subst hj
    rw [if_pos rfl, leftR_length]
    by_cases hq : r < q
    · rw [if_pos hq]
      simp only [leftR, List.getElem?_map, List.getElem?_range hq, Option.map_some]
      rw [cntS, if_pos hr, sumS, e1, Int.sub_sub]
    · rw [if_neg hq, List.getElem?_eq_none (by rw [leftR_length]; omega)]
  · rw [if_neg hj]
    by_cases hq : j < q
    · simp only [leftR, List.getElem?_map, List.getElem?_range hq, Option.map_some]
      rw [cntS, if_neg (by omega), Nat.add_zero]
    · rw [List.getElem?_eq_none (by rw [leftR_length]; omega), List.getElem?_eq_none (by rw [leftR_length]; omega)]
theorem cntS_pos (ns : List Int) (r : Int) : ∀ n, cntS ns r n = 0 ∨ ∃ k, k < n ∧ ns.getD k 0 = r
  | 0 => .inl rfl
  | n + 1 => by
    by_cases h : ns.getD n 0 = r
    · exact .inr ⟨n, by omega, h⟩
    · rcases cntS_pos ns r n with h1 | ⟨k, h1, h2⟩
      · left; rw [cntS, if_neg h, h1]
      · exact .inr ⟨k, by omega, h2⟩
theorem mxS_gt (ns : List Int) {k : Nat} : ∀ n, k < n → (ns.getD k 0).toNat < mxS ns n
  | 0, h => by omega
  | n + 1, h => by
    rw [mxS]
    by_cases hk : k = n
    · subst hk; omega
    · have := mxS_gt ns n (by omega : k < n); omega
theorem on63 {hold : Int} {ss : List Sn} (hd : ∀ k, k < ss.length → dy ss k < 6) : onB m63 hold ss = decide (sumS ss ss.length ≤ hold) :=
  onB_all fun i hi k hk => may63 _ (hd k (by omega))
theorem wind63 {hold : Int} {ss : List Sn} {ns : List Int} (hal : allS ss = true) (hst : ∀ j, IsSt (sat ss j)) (hh : 0 ≤ hold) (hl : ns.length = ss.length) (hu : upTo ns 7 = true) :
    rightB m63 hold ss ns = true ↔ ∀ r, r < mxS ns ss.length → 0 ≤ hold - sumS (subS ss ns (r : Int)) (cntS ns (r : Int) ss.length) := by
  have h0 := getD_pos hu
  have hon : ∀ r : Int, onB m63 hold (subS ss ns r) = decide (sumS (subS ss ns r) (cntS ns r ss.length) ≤ hold) := fun r => by
    rw [on63 fun k hk => (dy_sub hl (sat_dy hal hst) r k hk).1, subS_len r ss ns hl]
  rw [windB_on m63_bytes (by decide +kernel) hal hst hh hl]
  constructor
  · intro h r hr
    rcases cntS_pos ns (r : Int) ss.length with h1 | ⟨k, h1, h2⟩
    · rw [h1, sumS]; omega
    · have := h k h1
      rw [h2, hon] at this
      have := of_decide_eq_true this
      omega
  · intro h k hk
    rw [hon]
    have h1 := h _ (mxS_gt ns ss.length hk)
    rw [Int.toNat_of_nonneg (h0 k)] at h1
    exact decide_eq_true (by omega)
/-- What LeftOn answers. -/
def leftF (hold : Int) (ss : List Sn) (ns : List Int) : List Int × Int := if askS m63 ss (inB hold 1 2000) = 0 then (if windB m63 hold ss ns = true then (leftR hold ss ns ss.length (mxS ns ss.length), 0) else ([], 4)) else ([], askS m63 ss (inB hold 1 2000))
theorem leftF_bad {hold : Int} {ss : List Sn} {ns : List Int} {c : Int} (h : askS m63 ss (inB hold 1 2000) = c) (hc : ¬ c = 0) : leftF hold ss ns = ([], c) := by unfold leftF; rw [h, if_neg hc]
theorem leftF_no {hold : Int} {ss : List Sn} {ns : List Int} (h : askS m63 ss (inB hold 1 2000) = 0) (hw : windB m63 hold ss ns = false) : leftF hold ss ns = ([], 4) := by unfold leftF; rw [if_pos h, hw]; rfl
theorem leftF_yes {hold : Int} {ss : List Sn} {ns : List Int} (h : askS m63 ss (inB hold 1 2000) = 0) (hw : windB m63 hold ss ns = true) : leftF hold ss ns = (leftR hold ss ns ss.length (mxS ns ss.length), 0) := by unfold leftF; rw [if_pos h, if_pos hw]
theorem ask63_1 {ss : List Sn} {f : Bool} (h : allS ss = false) : askS m63 ss f = 1 := by unfold askS; rw [h]; simp
theorem ask63_3 {ss : List Sn} {f : Bool} (h : allS ss = true) (h8 : ¬ ss.length ≤ 8) : askS m63 ss f = 3 := by
  unfold askS
  rw [h, show meetsB m63 = true by decide +kernel, if_pos (show (true && true) = true from rfl), if_neg h8]
theorem ask63_f {ss : List Sn} {f : Bool} (h : allS ss = true) (h8 : ss.length ≤ 8) : askS m63 ss f = if f = true then 0 else 2 := by
  unfold askS
  rw [h, show meetsB m63 = true by decide +kernel, if_pos (show (true && true) = true from rfl), if_pos h8]
theorem leftR_len8 {ns : List Int} {n : Nat} (hu : upTo ns 7 = true) (hl : ns.length = n) : mxS ns n ≤ 8 := mxS_le hu hl n (Nat.le_refl _)

theorem leftF_len (hold : Int) (ss : List Sn) (ns : List Int) : (leftF hold ss ns).1.length ≤ 2097152 := by
  unfold leftF
  split
  · split
    · rename_i hw
      unfold windB at hw
      simp only [Bool.and_eq_true] at hw
      have := leftR_len8 hw.2.1 (of_decide_eq_true hw.1)
      simp only [leftR_length]
      omega
    · simp
  · simp

/-- What the document finds wrong with numbers of reels. -/
def toldF (ns : List Int) : Int := if ns.length ≤ 8 then (if upTo ns 7 = true then 0 else 2) else 3
set_option maxRecDepth 100000 in
set_option maxHeartbeats 1000000 in
theorem told_any (v : Value) (zs : List Int) (w : World) (h : Ints w v zs) (hn : zs.length ≤ 1048576) :
    Calls Tryd.prog 35 #[v] w fun e w' => e = .returned (.int .i64 (toldF zs)) ∧ w = w' := by
  by_cases h8 : zs.length ≤ 8
  · rw [show toldF zs = if upTo zs 7 = true then 0 else 2 from if_pos h8]
    obtain ⟨R, hR⟩ : ∃ R, (if upTo zs 7 = true then (0 : Int) else 2) = R := ⟨_, rfl⟩
    have HR := Lib.hid hR
    rw [hR]
    clear hR
    have HT := Lib.hid h
    obtain ⟨a, c, rfl⟩ : ∃ a c, v = .slice a zs.length c := by
      rcases h with ⟨a, cap, rfl, rfl⟩ | ⟨b, off, cap, rfl, _⟩
      · exact ⟨_, _, rfl⟩
      · exact ⟨_, _, rfl⟩
    have U1 := Lib.hid (upTo_step zs 7)
    have U2 := Lib.hid (upTo_no zs 7)
    have U3 := Lib.hid (upTo_all zs 7)
    obtain ⟨n, hln⟩ : ∃ n, n = zs.length := ⟨_, rfl⟩
    have HLN := Lib.hid hln
    rw [← hln] at U1 U2 U3 HT h8 hn ⊢
    have h8' : (n : Int) ≤ 8 := by omega
    clear hln h
    go_enter Tryd.func35, Tryd.ntmps35
    go_wp2
    go_loop [3] (fun i => ∃ k : Nat, k ≤ n ∧ i = .int .i64 k ∧ Hid (upTo (zs.take k) 7 = true)) (fun i => n - (intOf i).toNat)
    case atStart => exact ⟨0, Nat.zero_le _, rfl, by rfl⟩
    case round =>
      obtain ⟨k, hk, rfl, hS⟩ := hrel
      by_cases hlt : k < n
      · obtain ⟨b, off, cz, hv, hcz⟩ : ∃ b off cap, Value.slice a n c = .slice (some ⟨b, off, none⟩) n cap ∧ ∀ j, j < n → w.cell? ⟨b, off + j, none⟩ = some (.int .i64 (zs.getD j 0)) := by
          rcases HT.out with ⟨a, cap, h1, h2⟩ | ⟨b, off, cap, h1, _, _, h3⟩
          · rw [h2] at HLN; have := HLN.out; simp at this; omega
          · exact ⟨b, off, cap, by rw [← HLN.out] at h1; exact h1, by rw [HLN.out]; exact h3⟩
        obtain ⟨rfl, rfl⟩ : a = some ⟨b, off, none⟩ ∧ c = cz := by simp at hv; exact ⟨hv.1, hv.2⟩
        have c1 := hcz k hlt
        have u1 := U1.out k hlt
        have u2 := U2.out k hlt
        have HI := Lib.hid fun wx => l04Number_any (zs.getD k 0) wx
        have hki : (k : Int) < (n : Int) := by omega
        rw [hS.out, Bool.true_and] at u1
        clear hv hcz
        generalize zs.getD k 0 = z at *
        cases hin : inB z 0 7 with
        | false =>
          rw [hin] at HI
          have HE := Lib.hid (show R = 2 by rw [← HR.out, u2 hin]; rfl)
          clear u1 u2 hin
          go_wp2_with fail
          refine (HI.out _).mono ?_
          rintro e w' ⟨rfl, rfl⟩
          go_wp2
          go_ret
          exact ⟨ret_int HE.out.symm, rfl⟩
        | true =>
          rw [hin] at HI
          have HE := Lib.hid (u1.trans hin)
          clear u1 u2 hin
          go_wp2_with fail
          refine (HI.out _).mono ?_
          rintro e w' ⟨rfl, rfl⟩
          go_wp2
          go_round
          case rel => exact ⟨k + 1, by omega, by go_num, HE⟩
          case measure => simp [intOf]; omega
      · have hkn : k = n := by omega
        subst hkn
        have HE := Lib.hid (show R = 0 by rw [← HR.out, ← U3.out, hS.out]; rfl)
        go_wp2
        go_ret
        exact ⟨ret_int HE.out.symm, rfl⟩
  · rw [show toldF zs = 3 from if_neg h8]
    obtain ⟨a, c, rfl⟩ : ∃ a c, v = .slice a zs.length c := by
      rcases h with ⟨a, cap, rfl, rfl⟩ | ⟨b, off, cap, rfl, _⟩
      · exact ⟨_, _, rfl⟩
      · exact ⟨_, _, rfl⟩
    have h9 : (8 : Int) < (zs.length : Int) := by omega
    clear h
    generalize zs.length = n at *
    go_enter Tryd.func35, Tryd.ntmps35
    go_wp2
    go_ret
    exact ⟨rfl, rfl⟩
end Go.Proofs.YtaanjjmochfhgaaDoor
