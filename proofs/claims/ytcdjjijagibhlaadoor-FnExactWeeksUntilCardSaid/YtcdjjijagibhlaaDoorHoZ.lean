/-
  No statement is proved here: WeeksLater and WeekLater, in the document's own text and in the program; condition: the program's errors lie where its text lays them.
-/
import Derived.Test.YtcdjjijagibhlaaDoorHoV
namespace Go.Proofs.YtcdjjijagibhlaaDoor
open Go.ChangeShapes Go.WideShapes Go.ChangeAt Go.RowKit

/-- The holes' box and the result's. -/
def HK2 (w W : World) (h : Nat → Int) : Prop := HAt W w.heap.size h ∧ HAt W (w.heap.size + 1) z8 ∧ (∀ o : Nat, W.frozen? ⟨w.heap.size + 1, o, none⟩ = false) ∧ Below w.heap.size w W
theorem HK2.next {w W W' : World} {h : Nat → Int} (H : HK2 w W h) (hB : Below W.heap.size W W') : HK2 w W' h :=
  ⟨H.1.below hB, H.2.1.below hB, fun o => (hB.frozen (p := ⟨w.heap.size + 1, o, none⟩) (show w.heap.size + 1 < W.heap.size from World.block_lt_of_cell? W ⟨w.heap.size + 1, 0, none⟩ (H.2.1 0 (by omega)))).trans (H.2.2.1 o), H.2.2.2.trans (hB.mono H.2.2.2.size)⟩
theorem HK2.made (w : World) (T : TypeId) (h : Nat → Int) : HK2 w ((w.alloc (.cells #[.int .u8 (h 0), .int .u8 (h 1), .int .u8 (h 2), .int .u8 (h 3), .int .u8 (h 4), .int .u8 (h 5), .int .u8 (h 6), .int .u8 (h 7)] T)).alloc (.cells #[.int .u8 0, .int .u8 0, .int .u8 0, .int .u8 0, .int .u8 0, .int .u8 0, .int .u8 0, .int .u8 0] T)) h :=
  ⟨(hat_made w T h).below ((Below.refl _ _).alloc (Nat.le_refl _) _), by
    have := hat_made (w.alloc (.cells #[.int .u8 (h 0), .int .u8 (h 1), .int .u8 (h 2), .int .u8 (h 3), .int .u8 (h 4), .int .u8 (h 5), .int .u8 (h 6), .int .u8 (h 7)] T)) T z8
    rw [World.size_alloc] at this
    exact this, fun o => by simp [go_sem], by go_grown⟩
theorem HK2.alloc {w W : World} {h : Nat → Int} (H : HK2 w W h) (o : Obj) : HK2 w (W.alloc o) h := H.next ((Below.refl _ _).alloc (Nat.le_refl _) _)
theorem l06Need_any (n : Int) (w : World) :
    Calls Tryd.prog 23 #[.int .i64 n] w fun e w' => e = .returned (.bool (inB n 1 4)) ∧ w = w' := by
  have H := Lib.hid (in_any n 1 4 w)
  go_enter Tryd.func23, Tryd.ntmps23
  go_wp2_with fail
  refine H.out.mono ?_
  rintro e w' ⟨rfl, rfl⟩
  go_wp2
  go_ret
  exact ⟨rfl, rfl⟩
theorem isNeed_any (n : Int) (w : World) :
    Calls Tryd.prog 28 #[.int .i64 n] w fun e w' => e = .returned (.agg #[.int .i64 n, .int .i64 1, .int .i64 4]) ∧ Below w.heap.size w w' := by
  go_enter Tryd.func28, Tryd.ntmps28
  go_wp2
  go_returns
  exact ⟨rfl, by go_grown⟩

set_option maxRecDepth 100000 in
set_option maxHeartbeats 8000000 in
theorem specWeeks_any (h : Nat → Int) (need weeks : Int) (w : World) (h8 : Bytes8 h) :
    Calls Tryd.prog 13 #[hv h, .int .i64 need, .int .i64 weeks] w fun e w' => e = .returned (.tuple #[hv (wlF h need weeks).1, .int .i64 (wlF h need weeks).2]) ∧ Below w.heap.size w w' := by
  have N1 := Lib.hid fun wx => l06Need_any need wx
  have N2 := Lib.hid fun wx => in_any weeks 0 100 wx
  have K0 := Lib.hid (HK2.made w 23 h)
  cases hok : (inB need 1 4 && inB weeks 0 100) with
  | false =>
    rw [wlF_no hok]
    cases h1 : inB need 1 4 with
    | false =>
      rw [h1] at N1
      clear hok h1 N2 h8
      go_enter Tryd.func13, Tryd.ntmps13
      go_wp2_with fail
      refine (N1.out _).mono ?_
      rintro e w' ⟨rfl, rfl⟩
      go_wp2
      go_returns
      exact ⟨rfl, by go_grown⟩
    | true =>
      rw [h1] at hok N1
      have h2 : inB weeks 0 100 = false := by simpa using hok
      rw [h2] at N2
      clear hok h1 h2 h8
      go_enter Tryd.func13, Tryd.ntmps13
      go_wp2_with fail
      refine (N1.out _).mono ?_
      rintro e w' ⟨rfl, rfl⟩
      go_wp2_with fail
      refine (N2.out _).mono ?_
      rintro e w' ⟨rfl, rfl⟩
      go_wp2
      go_returns
      exact ⟨rfl, by go_grown⟩
  | true =>
    rw [wlF_yes hok]
    have hb : inB need 1 4 = true ∧ inB weeks 0 100 = true := by simpa using hok
    obtain ⟨v1, v2⟩ := inB_of hb.2
    obtain ⟨n, rfl⟩ : ∃ n : Nat, weeks = (n : Int) := ⟨weeks.toNat, by omega⟩
    rw [Int.toNat_natCast]
    rw [hb.1] at N1
    rw [hb.2] at N2
    have HC := Lib.hid fun wx => l06Weeks_any h need n wx h8 (by omega)
    generalize wks need h n = g at *
    clear hok hb h8
    go_enter Tryd.func13, Tryd.ntmps13
    go_wp2_with fail
    refine (N1.out _).mono ?_
    rintro e w' ⟨rfl, rfl⟩
    go_wp2_with fail
    refine (N2.out _).mono ?_
    rintro e w' ⟨rfl, rfl⟩
    go_wp2_with fail
    refine (HC.out _).mono ?_
    rintro e w1 ⟨rfl, hB⟩
    have K1 := Lib.hid (K0.out.next hB)
    clear hB
    have r0 := K1.out.2.1 0 (by omega)
    have r1 := K1.out.2.1 1 (by omega)
    have r2 := K1.out.2.1 2 (by omega)
    have r3 := K1.out.2.1 3 (by omega)
    have r4 := K1.out.2.1 4 (by omega)
    have r5 := K1.out.2.1 5 (by omega)
    have r6 := K1.out.2.1 6 (by omega)
    have r7 := K1.out.2.1 7 (by omega)
    have fz : ∀ o : Nat, _ := K1.out.2.2.1
    obtain ⟨e0, e1, e2, e3, e4, e5, e6, e7⟩ := res8 (.int .u8 (g 0)) (.int .u8 (g 1)) (.int .u8 (g 2)) (.int .u8 (g 3)) (.int .u8 (g 4)) (.int .u8 (g 5)) (.int .u8 (g 6)) (.int .u8 (g 7)) r0 r1 r2 r3 r4 r5 r6 r7
    go_wp2
    refine bodyPost_ret (by simp [results, Tryd.results13, go_sem, e0, e1, e2, e3, e4, e5, e6, e7]; try rfl) rfl ?_
    refine ⟨rfl, ?_⟩
    go_grown
    exact K1.out.2.2.2

set_option maxRecDepth 100000 in
set_option maxHeartbeats 8000000 in
theorem implWeeks_any (p : Nat → Addr) (h : Nat → Int) (need weeks : Int) (w : World) (hs : Sent w p) (h8 : Bytes8 h) :
    Calls Tryd.prog 14 #[hv h, .int .i64 need, .int .i64 weeks] w fun e w' => e = .returned (.tuple #[hv (wlF h need weeks).1, .int .i64 (wlF h need weeks).2]) ∧ Below w.heap.size w w' := by
  have HS := Lib.hid hs
  have K0 := Lib.hid (HK2.made w 23 h)
  have N1 := Lib.hid fun wx => isNeed_any need wx
  have C := Lib.hid fun b cap wx hx h0 h1 => check2_any p b cap need 1 4 weeks 0 100 wx hx h0 h1
  have q1 := neqNil_err
  have q2 := neqNil_nil
  clear hs
  cases hok : (inB need 1 4 && inB weeks 0 100) with
  | false =>
    rw [wlF_no hok]
    rw [hok, errIn_no] at C
    have HC := Lib.hid fun wx hx => codeOf_err (p := p) 1 (by omega) wx hx
    clear hok h8
    go_enter Tryd.func14, Tryd.ntmps14
    go_wp2_with fail
    refine (N1.out _).mono ?_
    rintro e w1 ⟨rfl, hB⟩
    have K1 := Lib.hid ((K0.out.next hB).alloc (.cells #[.iface 46 (.agg #[.int .i64 need, .int .i64 1, .int .i64 4]), .iface 46 (.agg #[.int .i64 weeks, .int .i64 0, .int .i64 100])] 66))
    clear hB
    go_wp2_with fail
    refine (C.out _ _ _ (HS.out.below K1.out.2.2.2) (by simp [go_sem]) (by simp [go_sem])).mono ?_
    rintro e w2 ⟨rfl, hB⟩
    have K2 := Lib.hid (K1.out.next hB)
    clear hB
    go_wp2_with fail
    refine (HC.out _ (HS.out.below K2.out.2.2.2)).mono ?_
    rintro e w' ⟨rfl, rfl⟩
    have r0 := K2.out.2.1 0 (by omega)
    have r1 := K2.out.2.1 1 (by omega)
    have r2 := K2.out.2.1 2 (by omega)
    have r3 := K2.out.2.1 3 (by omega)
    have r4 := K2.out.2.1 4 (by omega)
    have r5 := K2.out.2.1 5 (by omega)
    have r6 := K2.out.2.1 6 (by omega)
    have r7 := K2.out.2.1 7 (by omega)
    have fz : ∀ o : Nat, _ := K2.out.2.2.1
    obtain ⟨e0, e1, e2, e3, e4, e5, e6, e7⟩ := res8 (.int .u8 0) (.int .u8 0) (.int .u8 0) (.int .u8 0) (.int .u8 0) (.int .u8 0) (.int .u8 0) (.int .u8 0) r0 r1 r2 r3 r4 r5 r6 r7
    go_wp2
    refine bodyPost_ret (by simp [results, Tryd.results14, go_sem, e0, e1, e2, e3, e4, e5, e6, e7]; try rfl) rfl ?_
    refine ⟨rfl, ?_⟩
    go_grown
    exact K2.out.2.2.2
  | true =>
    rw [wlF_yes hok]
    have hb : inB need 1 4 = true ∧ inB weeks 0 100 = true := by simpa using hok
    obtain ⟨v1, v2⟩ := inB_of hb.2
    obtain ⟨n, rfl⟩ : ∃ n : Nat, weeks = (n : Int) := ⟨weeks.toNat, by omega⟩
    rw [Int.toNat_natCast]
    rw [hok, errIn_yes] at C
    have HC := Lib.hid fun wx => weeksLater_any h need n wx h8 (by omega)
    generalize wks need h n = g at *
    clear hok hb h8
    go_enter Tryd.func14, Tryd.ntmps14
    go_wp2_with fail
    refine (N1.out _).mono ?_
    rintro e w1 ⟨rfl, hB⟩
    have K1 := Lib.hid ((K0.out.next hB).alloc (.cells #[.iface 46 (.agg #[.int .i64 need, .int .i64 1, .int .i64 4]), .iface 46 (.agg #[.int .i64 n, .int .i64 0, .int .i64 100])] 66))
    clear hB
    go_wp2_with fail
    refine (C.out _ _ _ (HS.out.below K1.out.2.2.2) (by simp [go_sem]) (by simp [go_sem])).mono ?_
    rintro e w2 ⟨rfl, hB⟩
    have K2 := Lib.hid (K1.out.next hB)
    clear hB
    have d0 := K2.out.1 0 (by omega)
    have d1 := K2.out.1 1 (by omega)
    have d2 := K2.out.1 2 (by omega)
    have d3 := K2.out.1 3 (by omega)
    have d4 := K2.out.1 4 (by omega)
    have d5 := K2.out.1 5 (by omega)
    have d6 := K2.out.1 6 (by omega)
    have d7 := K2.out.1 7 (by omega)
    go_wp2_with fail
    refine (HC.out _).mono ?_
    rintro e w3 ⟨rfl, hB⟩
    have K3 := Lib.hid (K2.out.next hB)
    clear hB d0 d1 d2 d3 d4 d5 d6 d7
    have r0 := K3.out.2.1 0 (by omega)
    have r1 := K3.out.2.1 1 (by omega)
    have r2 := K3.out.2.1 2 (by omega)
    have r3 := K3.out.2.1 3 (by omega)
    have r4 := K3.out.2.1 4 (by omega)
    have r5 := K3.out.2.1 5 (by omega)
    have r6 := K3.out.2.1 6 (by omega)
    have r7 := K3.out.2.1 7 (by omega)
    have fz : ∀ o : Nat, _ := K3.out.2.2.1
    obtain ⟨e0, e1, e2, e3, e4, e5, e6, e7⟩ := res8 (.int .u8 (g 0)) (.int .u8 (g 1)) (.int .u8 (g 2)) (.int .u8 (g 3)) (.int .u8 (g 4)) (.int .u8 (g 5)) (.int .u8 (g 6)) (.int .u8 (g 7)) r0 r1 r2 r3 r4 r5 r6 r7
    go_wp2
    refine bodyPost_ret (by simp [results, Tryd.results14, go_sem, e0, e1, e2, e3, e4, e5, e6, e7]; try rfl) rfl ?_
    refine ⟨rfl, ?_⟩
    go_grown
    exact K3.out.2.2.2

set_option maxRecDepth 100000 in
set_option maxHeartbeats 8000000 in
theorem implWeek_any (p : Nat → Addr) (h : Nat → Int) (need : Int) (w : World) (hs : Sent w p) (h8 : Bytes8 h) :
    Calls Tryd.prog 11 #[hv h, .int .i64 need] w fun e w' => e = .returned (.tuple #[hv (wlF h need 1).1, .int .i64 (wlF h need 1).2]) ∧ Below w.heap.size w w' := by
  have HS := Lib.hid hs
  have K0 := Lib.hid (HK2.made w 23 h)
  have HC := Lib.hid fun wx hs => implWeeks_any p h need 1 wx hs h8
  generalize (wlF h need 1).1 = g at *
  generalize (wlF h need 1).2 = c at *
  clear hs h8
  go_enter Tryd.func11, Tryd.ntmps11
  go_wp2_with fail
  refine (HC.out _ (HS.out.below K0.out.2.2.2)).mono ?_
  rintro e w1 ⟨rfl, hB⟩
  have K1 := Lib.hid (K0.out.next hB)
  clear hB
  have r0 := K1.out.2.1 0 (by omega)
  have r1 := K1.out.2.1 1 (by omega)
  have r2 := K1.out.2.1 2 (by omega)
  have r3 := K1.out.2.1 3 (by omega)
  have r4 := K1.out.2.1 4 (by omega)
  have r5 := K1.out.2.1 5 (by omega)
  have r6 := K1.out.2.1 6 (by omega)
  have r7 := K1.out.2.1 7 (by omega)
  have fz : ∀ o : Nat, _ := K1.out.2.2.1
  obtain ⟨e0, e1, e2, e3, e4, e5, e6, e7⟩ := res8 (.int .u8 (g 0)) (.int .u8 (g 1)) (.int .u8 (g 2)) (.int .u8 (g 3)) (.int .u8 (g 4)) (.int .u8 (g 5)) (.int .u8 (g 6)) (.int .u8 (g 7)) r0 r1 r2 r3 r4 r5 r6 r7
  go_wp2
  refine bodyPost_ret (by simp [results, Tryd.results11, go_sem, e0, e1, e2, e3, e4, e5, e6, e7]; try rfl) rfl ?_
  refine ⟨rfl, ?_⟩
  go_grown
  exact K1.out.2.2.2

set_option maxRecDepth 100000 in
set_option maxHeartbeats 8000000 in
theorem specWeek_any (h : Nat → Int) (need : Int) (w : World) (h8 : Bytes8 h) :
    Calls Tryd.prog 9 #[hv h, .int .i64 need] w fun e w' => e = .returned (.tuple #[hv (wlF h need 1).1, .int .i64 (wlF h need 1).2]) ∧ Below w.heap.size w w' := by
  have N1 := Lib.hid fun wx => l06Need_any need wx
  have K0 := Lib.hid (HK2.made w 23 h)
  have one : inB 1 0 100 = true := inB_mk (by omega)
  cases hok : inB need 1 4 with
  | false =>
    rw [wlF_no (by rw [hok, one]; rfl)]
    rw [hok] at N1
    clear hok one h8
    go_enter Tryd.func9, Tryd.ntmps9
    go_wp2_with fail
    refine (N1.out _).mono ?_
    rintro e w' ⟨rfl, rfl⟩
    go_wp2
    go_returns
    exact ⟨rfl, by go_grown⟩
  | true =>
    rw [wlF_yes (by rw [hok, one]; rfl)]
    rw [hok] at N1
    have HC := Lib.hid (l06Week_any w.heap.size h need _ h8 K0.out.1)
    rw [show wks need h (1 : Int).toNat = weekF h need from rfl]
    generalize weekF h need = g at *
    clear hok one h8
    go_enter Tryd.func9, Tryd.ntmps9
    go_wp2_with fail
    refine (N1.out _).mono ?_
    rintro e w' ⟨rfl, rfl⟩
    go_wp2_with fail
    refine HC.out.mono ?_
    rintro e w1 ⟨rfl, hB⟩
    have K1 := Lib.hid (K0.out.next hB)
    clear hB
    have r0 := K1.out.2.1 0 (by omega)
    have r1 := K1.out.2.1 1 (by omega)
    have r2 := K1.out.2.1 2 (by omega)
    have r3 := K1.out.2.1 3 (by omega)
    have r4 := K1.out.2.1 4 (by omega)
    have r5 := K1.out.2.1 5 (by omega)
    have r6 := K1.out.2.1 6 (by omega)
    have r7 := K1.out.2.1 7 (by omega)
    have fz : ∀ o : Nat, _ := K1.out.2.2.1
    obtain ⟨e0, e1, e2, e3, e4, e5, e6, e7⟩ := res8 (.int .u8 (g 0)) (.int .u8 (g 1)) (.int .u8 (g 2)) (.int .u8 (g 3)) (.int .u8 (g 4)) (.int .u8 (g 5)) (.int .u8 (g 6)) (.int .u8 (g 7)) r0 r1 r2 r3 r4 r5 r6 r7
    go_wp2
    refine bodyPost_ret (by simp [results, Tryd.results9, go_sem, e0, e1, e2, e3, e4, e5, e6, e7]; try rfl) rfl ?_
    refine ⟨rfl, ?_⟩
    go_grown
    exact K1.out.2.2.2
end Go.Proofs.YtcdjjijagibhlaaDoor
