/-
  No statement is proved here: the library's stable sort of at most 20 indices by a key; condition: the comparison tells the keys apart.
-/
import Derived.Test.YtapimmlhcbjgoaaFiM
import Derived.Laws.OwnMore
import Derived.Deep.RegionHeld3
import Derived.StillTailTactics
namespace Go.Proofs.Ytapimmlhcbjgoaa
open Go.ChangeShapes Go.WideShapes Go.ChangeAt Go.RowKit

/-- What cmp.Compare answers. -/
def cmpF (x y : Int) : Int := if x < y then -1 else if y < x then 1 else 0
theorem cmpF_lt {x y : Int} (h : x < y) : cmpF x y = -1 := if_pos h
theorem cmpF_ge {x y : Int} (h : ¬ x < y) : 0 ≤ cmpF x y ∧ cmpF x y ≤ 1 := by
  unfold cmpF
  rw [if_neg h]
  split <;> omega
theorem nan_any (x : Int) (w : World) :
    Calls Try.prog 43 #[.int .i16 x] w fun e w' => e = .returned (.bool false) ∧ w = w' := by
  have h : (x != x) = false := by simp
  go_enter Try.func43, Try.ntmps43
  go_wp2
  go_ret
  exact ⟨rfl, rfl⟩
set_option maxHeartbeats 1000000 in
theorem compare_any (x y : Int) (w : World) :
    Calls Try.prog 40 #[.int .i16 x, .int .i16 y] w fun e w' => e = .returned (.int .i64 (cmpF x y)) ∧ w = w' := by
  have H1 := Lib.hid fun wx => nan_any x wx
  have H2 := Lib.hid fun wx => nan_any y wx
  by_cases h1 : x < y
  · rw [cmpF_lt h1]
    go_enter Try.func40, Try.ntmps40
    go_wp2_with fail
    refine (H1.out _).mono ?_
    rintro e w' ⟨rfl, rfl⟩
    go_wp2_with fail
    refine (H2.out _).mono ?_
    rintro e w' ⟨rfl, rfl⟩
    go_wp2
    go_ret
    exact ⟨rfl, rfl⟩
  · by_cases h2 : y < x
    · rw [show cmpF x y = 1 by unfold cmpF; rw [if_neg h1, if_pos h2]]
      have h1' : y ≤ x := by omega
      clear h1
      go_enter Try.func40, Try.ntmps40
      go_wp2_with fail
      refine (H1.out _).mono ?_
      rintro e w' ⟨rfl, rfl⟩
      go_wp2_with fail
      refine (H2.out _).mono ?_
      rintro e w' ⟨rfl, rfl⟩
      go_wp2
      go_ret
      exact ⟨rfl, rfl⟩
    · rw [show cmpF x y = 0 by unfold cmpF; rw [if_neg h1, if_neg h2]]
      have h1' : y ≤ x := by omega
      have h2' : x ≤ y := by omega
      clear h1 h2
      go_enter Try.func40, Try.ntmps40
      go_wp2_with fail
      refine (H1.out _).mono ?_
      rintro e w' ⟨rfl, rfl⟩
      go_wp2_with fail
      refine (H2.out _).mono ?_
      rintro e w' ⟨rfl, rfl⟩
      go_wp2
      go_ret
      exact ⟨rfl, rfl⟩

/-- The comparison of two indices, as the sort calls it. -/
def CmpOk (K : Nat → Int) (N kb lb g : Nat) (w : World) : Prop :=
  ∀ a b : Nat, a < N → b < N → ∀ wx, w.grownBy wx (some g) → Calls Try.prog 39 #[.int .i64 a, .int .i64 b, .pointer (some ⟨kb, 0, none⟩), .pointer (some ⟨lb, 0, none⟩)] wx
    fun e w' => e = .returned (.int .i64 (cmpF (K a) (K b))) ∧ Below wx.heap.size wx w'
theorem grown_of_belowS {a b : World} (h : Below a.heap.size a b) (row : Option Nat) : a.grownBy b row := ⟨h.os, h.tape, h.output, h.size, fun i hi _ => h.block i hi⟩
theorem grownBy_setS (W : World) (b a : Nat) (v : Value) : W.grownBy (W.setCell ⟨b, a, none⟩ v) (some b) :=
  ⟨rfl, rfl, rfl, by simp, fun i _ hne => Below.heap_setCell _ _ _ i (fun e => hne (by rw [e]))⟩

theorem grownN {w w' : World} {row : Option Nat} (h : w.grownBy w' row) (n : Nat) : w.grownBy (w'.drewN n) row := ⟨h.os, h.tape, h.output, h.size, h.block⟩
theorem grownN' {w w' : World} {row : Option Nat} (h : w.grownBy w' row) : w.grownBy w'.drew row := ⟨h.os, h.tape, h.output, h.size, h.block⟩

set_option maxRecDepth 100000 in
set_option maxHeartbeats 8000000 in
theorem insert_any (K : Nat → Int) (N g cap base kb lb : Nat) (w : World) (h : Own w base (.slice (some ⟨g, 0, none⟩) N cap) (nm (idr 0 N))) (hN : N ≤ 20) (hc : CmpOk K N kb lb g w) :
    Calls Try.prog 44 #[.slice (some ⟨g, 0, none⟩) N cap, .int .i64 0, .int .i64 N, .func (Fn.func 39) #[] #[.pointer (some ⟨kb, 0, none⟩), .pointer (some ⟨lb, 0, none⟩)]] w
      fun e w' => (∃ v, e = .returned v) ∧ (∃ P, Srt K P N ∧ Own w' base (.slice (some ⟨g, 0, none⟩) N cap) (nm P)) ∧ w.grownBy w' (some g) := by
  have HC := Lib.hid hc
  clear hc
  by_cases h0 : N = 0
  · subst h0
    have H0 := Lib.hid h
    clear h HC
    go_enter Try.func44, Try.ntmps44
    go_wp2
    go_rounds 1
    go_end0
    exact ⟨⟨_, rfl⟩, ⟨[], srt_nil K, H0.out⟩, World.grownBy.refl _ _⟩
  · have HN1 : 1 ≤ N := by omega
    have h1 := Lib.hid (show Own w base (.slice (some ⟨g, 0, none⟩) N cap) (nm ([0] ++ idr 1 N)) by
      have e : idr 0 N = [0] ++ idr 1 N := idr_step (by omega)
      rwa [← e])
    have HS1 := Lib.hid (srt_one K)
    clear h h0
    go_enter Try.func44, Try.ntmps44
    go_wp2_with fail
    go_loopw [8] (fun i wr => ∃ n : Nat, i = .int .i64 n ∧ n ≤ N ∧ 1 ≤ n ∧ Hid (∃ P, Srt K P n ∧ Own wr base (.slice (some ⟨g, 0, none⟩) N cap) (nm (P ++ idr n N))) ∧ Hid (w.grownBy wr (some g))) (fun i _ => 30 - (intOf i).toNat)
    case atStart => exact ⟨1, rfl, HN1, Nat.le_refl _, Lib.hid ⟨[0], HS1.out, h1.out⟩, World.grownBy.refl _ _⟩
    case round =>
      clear h1 HS1
      obtain ⟨n, rfl, hn, hn1, hP, hG⟩ := hrel
      by_cases hlt : n < N
      · have hltI : (n : Int) < (N : Int) := by omega
        obtain ⟨P, hS, hO⟩ := hP.out
        have hS0 : Hid (∃ A D, Srt K (A ++ D) n ∧ A.length = n ∧ (∀ y ∈ D, K n < K y) ∧ Own wr base (.slice (some ⟨g, 0, none⟩) N cap) (nm (A ++ n :: (D ++ idr (n + 1) N)))) := Lib.hid ⟨P, [], by simpa using hS, hS.2.1, fun y hy => absurd hy List.not_mem_nil, by
          have e : idr n N = n :: idr (n + 1) N := idr_step hlt
          rw [e] at hO
          simpa using hO⟩
        have hG0 := Lib.hid hG.out
        clear hP hS hO hG
        go_wp2_with fail
        go_loopw [9] (fun jj wq => ∃ j : Int, jj = .int .i64 j ∧ 0 ≤ j ∧ j ≤ (n : Int) ∧ Hid (∃ A D, Srt K (A ++ D) n ∧ (A.length : Int) = j ∧ (∀ y ∈ D, K n < K y) ∧ Own wq base (.slice (some ⟨g, 0, none⟩) N cap) (nm (A ++ n :: (D ++ idr (n + 1) N)))) ∧ Hid (w.grownBy wq (some g))) (fun jj _ => (intOf jj).toNat)
        case atStart => exact ⟨n, rfl, by omega, Int.le_refl _, by obtain ⟨A, D, x1, x2, x3⟩ := hS0.out; exact Lib.hid ⟨A, D, x1, by rw [x2], x3⟩, hG0⟩
        case round =>
          clear hS0 hG0
          obtain ⟨j, rfl, hj0, hj, hS, hG⟩ := hrel
          obtain ⟨A, D, hSr, hA, hD, hO⟩ := hS.out
          rcases List.eq_nil_or_concat A with rfl | ⟨A', x, rfl⟩
          · obtain rfl : j = 0 := by simpa using hA.symm
            have HE : Hid (∃ P, Srt K P (n + 1) ∧ Own wr base (.slice (some ⟨g, 0, none⟩) N cap) (nm (P ++ idr (n + 1) N))) := Lib.hid ⟨n :: D, srt_front hSr hD, by simpa using hO⟩
            have HG := Lib.hid hG.out
            clear hS hSr hA hD hO hG hj0 hj
            have hd0 : decide ((0 : Int) < (0 : Int)) = false := by decide
            go_wp2_with fail
            go_quiet (fail)
            go_wp2_with fail
            go_roundw
            case rel => exact ⟨n + 1, by go_num, by omega, by omega, HE, grownN HG.out nq⟩
            case measure => simp [intOf]; omega
          · rw [List.concat_eq_append] at hSr hA hO
            have hxn : x < n := (hSr.2.2 x).1 (by simp)
            have hlen : (nm ((A' ++ [x]) ++ n :: (D ++ idr (n + 1) N))).length = N := by
              rw [nm_length]
              have := hSr.2.1
              simp [idr_length] at this ⊢
              omega
            have hrow := hO.row
            rw [hlen] at hrow
            have hqN : A'.length + 1 < N := by
              have := hlen
              rw [nm_length] at this
              simp [idr_length] at this
              omega
            have c0 : wr.cell? ⟨g, A'.length, none⟩ = some (.int .i64 (x : Int)) := (hrow.cellAt _ (by omega)).trans ((cellOf (by rw [hlen]; omega)).trans (by rw [nm_get, List.append_assoc]; simp))
            have c1 : wr.cell? ⟨g, A'.length + 1, none⟩ = some (.int .i64 (n : Int)) := (hrow.cellAt _ (by omega)).trans ((cellOf (by rw [hlen]; omega)).trans (by rw [nm_get, List.append_assoc]; simp))
            have f0 := hrow.frozenAt A'.length
            have f1 := hrow.frozenAt (A'.length + 1)
            have hbk : g < wr.heap.size := World.block_lt_of_cell? wr _ c0
            have HCC := Lib.hid fun wx hx => HC.out n x hlt (by omega) wx (grown_tr hG.out hx)
            have HSW := Lib.hid (swp_two A' (D ++ idr (n + 1) N) x n)
            have HRW := Lib.hid (show wr.ownsRow base 2 1 (.slice (some ⟨g, 0, none⟩) N cap) N ((nm (A' ++ x :: n :: (D ++ idr (n + 1) N))).map (Value.int .i64)) by rw [List.append_assoc] at hrow; exact hrow)
            have HLN := Lib.hid (show (nm (A' ++ n :: x :: (D ++ idr (n + 1) N))).length = N by rw [nm_length] at hlen ⊢; simp at hlen ⊢; omega)
            have hj' : j = (A'.length : Int) + 1 := by rw [← hA]; simp
            subst hj'
            have HG := Lib.hid hG.out
            by_cases hk : K n < K x
            · rw [show cmpF (K n) (K x) = -1 from cmpF_lt hk] at HCC
              have HS2 : Hid (Srt K (A' ++ (x :: D)) n ∧ ∀ y ∈ x :: D, K n < K y) := Lib.hid ⟨by simpa using hSr, fun y hy => by
                rcases List.mem_cons.1 hy with rfl | hy
                · exact hk
                · exact hD y hy⟩
              have HC0 := Lib.hid c0
              have HC1 := Lib.hid c1
              have HF0 := Lib.hid f0
              have HF1 := Lib.hid f1
              have HBK := Lib.hid hbk
              clear hS hSr hA hD hO hG hlen hrow hk f0 f1 hbk
              generalize hq : A'.length = q at *
              have HQ := Lib.hid hq
              clear hq
              have hd0 : decide ((0 : Int) < (q : Int) + 1) = true := decide_eq_true (by omega)
              have hd1 : decide ((-1 : Int) < 0) = true := by decide
              have hq1 : q + 1 < N := hqN
              have hq2 : (q : Int) + 1 < (N : Int) := by omega
              have hq3 : (q : Int) < (N : Int) := by omega
              have u1 : IntKind.i64.wrap (q : Int) = (q : Int) := (IntWalk.i64_in _ (by omega)).trans (by omega)
              have u2 : wrap64 (q : Int) = (q : Int) := (IntWalk.wrap64_in _ (by omega)).trans (by omega)
              go_wp2_with fail
              go_still_tail 14, (by kernel_rfl)
              change wpList _ _ _ _ _ wr.drew
              go_wp2_with fail
              refine (HCC.out _ ?_).mono ?_
              · exact grownN' (World.grownBy.refl _ _)
              rintro e w2 ⟨rfl, hB2⟩
              have G2 : wr.grownBy w2 (some g) := grown_of_belowS (((Below.refl _ wr).drew).trans hB2) _
              have d0 := (hB2.cell (p := ⟨g, q, none⟩) HBK.out).trans HC0.out
              have d1 := (hB2.cell (p := ⟨g, q + 1, none⟩) HBK.out).trans HC1.out
              have e0 := (hB2.frozen (p := ⟨g, q, none⟩) HBK.out).trans HF0.out
              have e1 := (hB2.frozen (p := ⟨g, q + 1, none⟩) HBK.out).trans HF1.out
              have R2 := HRW.out.kept (w' := w2) (row := none) (grown_of_belowS (((Below.refl _ wr).drew).trans hB2) _) (.inr (by simp [Value.ownBlock]))
              have S2 := (R2.stored (q + 1) (.int .i64 (x : Int))).1
              have S3 := (S2.stored q (.int .i64 (n : Int))).1
              rw [← List.map_set, ← List.map_set, HSW.out] at S3
              have HS3 := Lib.hid S3
              have HG3 := Lib.hid (grown_tr (grown_tr HG.out G2) (grown_tr (grownBy_setS w2 g (q + 1) (.int .i64 (x : Int))) (grownBy_setS _ g q (.int .i64 (n : Int)))))
              clear hB2 G2 R2 S2 S3 c0 c1
              go_wp2_with fail
              go_region
              all_goals
                go_wp2_with fail
                go_roundw
                case rel => exact ⟨q, by go_num, by omega, by omega, Lib.hid ⟨A', x :: D, HS2.out.1, by rw [HQ.out], HS2.out.2, by
                  unfold Own
                  rw [List.cons_append, HLN.out]
                  exact HS3.out.kept (row := none) (grownN' (World.grownBy.refl _ _)) (.inr (by simp [Value.ownBlock]))⟩, grownN' HG3.out⟩
                case measure => simp [intOf]
            · obtain ⟨hcc, hcc1⟩ := cmpF_ge hk
              have HE : Hid (∃ P, Srt K P (n + 1) ∧ Own wr base (.slice (some ⟨g, 0, none⟩) N cap) (nm (P ++ idr (n + 1) N))) := Lib.hid ⟨(A' ++ [x]) ++ n :: D, srt_end hSr (by omega) hD, by simpa using hO⟩
              clear hS hSr hA hD hO hG hlen hrow hk f0 f1 hbk
              generalize A'.length = q at *
              generalize cmpF (K n) (K x) = cc at *
              have hd0 : decide ((0 : Int) < (q : Int) + 1) = true := decide_eq_true (by omega)
              have hd1 : decide (cc < 0) = false := decide_eq_false (by omega)
              have hq1 : q + 1 < N := hqN
              have hq2 : (q : Int) + 1 < (N : Int) := by omega
              have hq3 : (q : Int) < (N : Int) := by omega
              have u1 : IntKind.i64.wrap (q : Int) = (q : Int) := (IntWalk.i64_in _ (by omega)).trans (by omega)
              have u2 : wrap64 (q : Int) = (q : Int) := (IntWalk.wrap64_in _ (by omega)).trans (by omega)
              go_wp2_with fail
              go_still_tail 14, (by kernel_rfl)
              change wpList _ _ _ _ _ wr.drew
              go_wp2_with fail
              refine (HCC.out _ ?_).mono ?_
              · exact grownN' (World.grownBy.refl _ _)
              rintro e w2 ⟨rfl, hB2⟩
              have HB2 := Lib.hid (((Below.refl _ wr).drew).trans hB2)
              clear hB2
              go_wp2_with fail
              go_roundw
              case rel => exact ⟨n + 1, by go_num, by omega, by omega, by obtain ⟨P, x1, x2⟩ := HE.out; exact Lib.hid ⟨P, x1, x2.below HB2.out⟩, Lib.hid (grown_tr HG.out (grown_of_belowS HB2.out _))⟩
              case measure => simp [intOf]; omega
      · obtain rfl : n = N := by omega
        obtain ⟨P, hS, hO⟩ := hP.out
        have HE : Hid (∃ P, Srt K P n ∧ Own wr base (.slice (some ⟨g, 0, none⟩) n cap) (nm P)) := Lib.hid ⟨P, hS, by rw [idr_none (Nat.le_refl _), List.append_nil] at hO; exact hO⟩
        have HG := Lib.hid hG.out
        clear hP hS hO hG
        go_wp2
        go_end0
        exact ⟨⟨_, rfl⟩, HE.out, HG.out⟩

set_option maxRecDepth 100000 in
set_option maxHeartbeats 4000000 in
theorem sort_any (K : Nat → Int) (N g cap base kb lb : Nat) (w : World) (h : Own w base (.slice (some ⟨g, 0, none⟩) N cap) (nm (idr 0 N))) (hN : N ≤ 19) (hc : CmpOk K N kb lb g w) :
    Calls Try.prog 38 #[.slice (some ⟨g, 0, none⟩) N cap, .func (Fn.func 39) #[] #[.pointer (some ⟨kb, 0, none⟩), .pointer (some ⟨lb, 0, none⟩)]] w
      fun e w' => (∃ v, e = .returned v) ∧ (∃ P, Srt K P N ∧ Own w' base (.slice (some ⟨g, 0, none⟩) N cap) (nm P)) ∧ w.grownBy w' (some g) := by
  have HI := Lib.hid (insert_any K N g cap base kb lb w h (by omega) hc)
  have hn1 : (N : Int) < 20 := by omega
  have HS : Hid (Calls Try.prog 42 #[.slice (some ⟨g, 0, none⟩) N cap, .int .i64 N, .func (Fn.func 39) #[] #[.pointer (some ⟨kb, 0, none⟩), .pointer (some ⟨lb, 0, none⟩)]] w
      fun e w' => (∃ v, e = .returned v) ∧ (∃ P, Srt K P N ∧ Own w' base (.slice (some ⟨g, 0, none⟩) N cap) (nm P)) ∧ w.grownBy w' (some g)) := Lib.hid (by
    clear h hc
    go_enter Try.func42, Try.ntmps42
    go_wp2_with fail
    go_loopw [7, 8] (fun a b wr => a = .int .i64 0 ∧ b = .int .i64 20 ∧ wr = w) (fun _ _ _ => 0)
    case atStart => exact ⟨rfl, rfl, rfl⟩
    case round =>
      obtain ⟨rfl, rfl, rfl⟩ := hrel
      go_wp2_with fail
      refine HI.out.mono ?_
      rintro e w2 ⟨⟨v, rfl⟩, hP, hG⟩
      have HP := Lib.hid hP
      have HG := Lib.hid hG
      clear hP hG
      go_wp2_with fail
      go_loopw [6] (fun a wr => a = .int .i64 20 ∧ wr = w2) (fun _ _ => 0)
      case atStart => exact ⟨rfl, rfl⟩
      case round =>
        obtain ⟨rfl, rfl⟩ := hrel
        go_wp2_with fail
        go_end0
        exact ⟨⟨_, rfl⟩, HP.out, HG.out⟩)
  clear h hc HI
  go_enter Try.func38, Try.ntmps38
  go_wp2_with fail
  refine HS.out.mono ?_
  rintro e w2 ⟨⟨v, rfl⟩, hP, hG⟩
  have HP := Lib.hid hP
  have HG := Lib.hid hG
  clear hP hG
  go_wp2_with fail
  go_end0
  exact ⟨⟨_, rfl⟩, HP.out, HG.out⟩
end Go.Proofs.Ytapimmlhcbjgoaa
