/-
  No statement is proved here: the rest of plies, as the program and as the document's own text add it up; condition: the errors lie where the text lays them; at most 1048576 yarns.
-/
import Derived.Test.YtpkjogenkdckpaaDoorPlies
namespace Go.Proofs.YtpkjogenkdckpaaDoor
open Go.ChangeShapes Go.WideShapes Go.ChangeAt Go.RowKit

/-- The rest of the first k plies. -/
def restTo (ys : List Yn) (t : Int) (k : Nat) : Int := ((ys.take k).map fun y => ((y.2.1 + t).natAbs : Int)).sum
theorem restTo_step (ys : List Yn) (t : Int) (k : Nat) (hk : k < ys.length) : restTo ys t (k + 1) = restTo ys t k + (((yat ys k).2.1 + t).natAbs : Int) := by
  rw [restTo, takeY hk, List.map_append, List.sum_append, ← restTo]
  simp
theorem restTo_bd {ys : List Yn} {t : Int} (h : ∀ j, Is16 (yat ys j)) (ht : -2000 ≤ t ∧ t ≤ 2000) : ∀ k, k ≤ ys.length → 0 ≤ restTo ys t k ∧ restTo ys t k ≤ 40000 * (k : Int)
  | 0, _ => by simp [restTo]
  | k + 1, hk => by
    have ih := restTo_bd h ht k (by omega)
    have hz := (h k).2.1
    rw [restTo_step ys t k (by omega)]
    omega

set_option maxRecDepth 100000 in
set_option maxHeartbeats 2000000 in
theorem restOf_any (v : Value) (ys : List Yn) (t : Int) (w : World) (h : Yarns w v ys) (hn : ys.length ≤ 1048576) (h0 : 0 < ys.length) (ht : -2000 ≤ t ∧ t ≤ 2000) :
    Calls Tryd.prog 61 #[v, .int .i64 t] w fun e w' => e = .returned (.int .i64 (restTo ys t ys.length)) ∧ Below w.heap.size w w' := by
  obtain ⟨b, off, cap, rfl, hb, hc⟩ := h.pos h0
  have H16 := Lib.hid h.1
  have U1 := Lib.hid (restTo_step ys t)
  have U2 := Lib.hid (fun k hk => restTo_bd h.1 ht k hk)
  obtain ⟨t1, t2⟩ := ht
  obtain ⟨n, hln⟩ : ∃ n, n = ys.length := ⟨_, rfl⟩
  rw [← hln] at U1 U2 hc hn h0 ⊢
  have HC := Lib.hid hc
  clear hc hln h
  go_enter Tryd.func61, Tryd.ntmps61
  go_wp2
  go_loopw [5, 10] (fun s i wr => ∃ (k : Nat) (q : Int), k ≤ n ∧ i = .int .i64 k ∧ s = .int .i64 q ∧ Hid (q = restTo ys t k) ∧ Below w.heap.size w wr) (fun _ i _ => n - (intOf i).toNat)
  case atStart => exact ⟨0, 0, Nat.zero_le _, rfl, rfl, by rfl, Below.refl _ _⟩
  case round =>
    obtain ⟨k, q, hk, rfl, rfl, hq, hB⟩ := hrel
    by_cases hlt : k < n
    · obtain ⟨p1, p2, p3⟩ := HC.out k hlt
      have u2 := U2.out k hk
      have HS := Lib.hid (U1.out k hlt)
      have u3 := (H16.out k).2.1
      rw [← hq.out] at HS u2
      obtain ⟨y, hy⟩ : ∃ y, y = yat ys k := ⟨_, rfl⟩
      rw [← hy] at p1 p2 p3 u3 HS
      clear hy hq
      obtain ⟨y0, y1, y2⟩ := y
      simp only at p1 p2 p3 u3
      have d1 := (hB.cell (p := ⟨b, off + k * 3, none⟩) hb).trans p1
      have d2 := (hB.cell (p := ⟨b, off + k * 3 + 1, none⟩) hb).trans p2
      have d3 := (hB.cell (p := ⟨b, off + k * 3 + 2, none⟩) hb).trans p3
      have HB := Lib.hid hB
      clear hB p1 p2 p3
      go_wp2_with fail
      refine (size_any _ _ (by omega) (by omega)).mono ?_
      rintro e w' ⟨rfl, rfl⟩
      go_wp2_with fail
      go_roundw
      case rel => exact ⟨k + 1, q + ((y1 + t).natAbs : Int), by omega, by go_num, by go_num, HS.out.symm, HB.out.alloc HB.out.size _⟩
      case measure => simp [intOf]; omega
    · have hkn : k = n := by omega
      subst hkn
      have HB := Lib.hid hB
      clear hB
      go_wp2
      go_ret
      exact ⟨ret_int hq.out, HB.out⟩

set_option maxRecDepth 100000 in
set_option maxHeartbeats 2000000 in
theorem l03Rest_any (v : Value) (ys : List Yn) (t : Int) (w : World) (h : Yarns w v ys) (hn : ys.length ≤ 1048576) (h0 : 0 < ys.length) (ht : -2000 ≤ t ∧ t ≤ 2000) :
    Calls Tryd.prog 59 #[v, .int .i64 t] w fun e w' => e = .returned (.int .i64 (restTo ys t ys.length)) ∧ w = w' := by
  obtain ⟨b, off, cap, rfl, hb, hc⟩ := h.pos h0
  have H16 := Lib.hid h.1
  have U1 := Lib.hid (restTo_step ys t)
  have U2 := Lib.hid (fun k hk => restTo_bd h.1 ht k hk)
  obtain ⟨t1, t2⟩ := ht
  obtain ⟨n, hln⟩ : ∃ n, n = ys.length := ⟨_, rfl⟩
  rw [← hln] at U1 U2 hc hn h0 ⊢
  have HC := Lib.hid hc
  clear hc hln h
  go_enter Tryd.func59, Tryd.ntmps59
  go_wp2
  go_loop [5, 6] (fun s i => ∃ (k : Nat) (q : Int), k ≤ n ∧ i = .int .i64 k ∧ s = .int .i64 q ∧ Hid (q = restTo ys t k)) (fun _ i => n - (intOf i).toNat)
  case atStart => exact ⟨0, 0, Nat.zero_le _, rfl, rfl, by rfl⟩
  case round =>
    obtain ⟨k, q, hk, rfl, rfl, hq⟩ := hrel
    by_cases hlt : k < n
    · obtain ⟨p1, p2, p3⟩ := HC.out k hlt
      have u2 := U2.out k hk
      have HS := Lib.hid (U1.out k hlt)
      have u3 := (H16.out k).2.1
      rw [← hq.out] at HS u2
      obtain ⟨y, hy⟩ : ∃ y, y = yat ys k := ⟨_, rfl⟩
      rw [← hy] at p1 p2 p3 u3 HS
      clear hy hq
      obtain ⟨y0, y1, y2⟩ := y
      simp only at p1 p2 p3 u3
      go_wp2_with fail
      refine (l01Size_any _ _ (by omega) (by omega)).mono ?_
      rintro e w' ⟨rfl, rfl⟩
      go_wp2_with fail
      go_round
      case rel => exact ⟨k + 1, q + ((y1 + t).natAbs : Int), by omega, by go_num, by go_num, HS.out.symm⟩
      case measure => simp [intOf]; omega
    · have hkn : k = n := by omega
      subst hkn
      go_wp2
      go_ret
      exact ⟨ret_int hq.out, rfl⟩

/-- What RestOf answers. -/
def restF (ys : List Yn) (t : Int) : Int × Int := if pliesF ys t = 0 then (restTo ys t ys.length, 0) else (0, pliesF ys t)

set_option maxHeartbeats 2000000 in
theorem specRest_any (v : Value) (ys : List Yn) (t : Int) (w : World) (h : Yarns w v ys) (hn : ys.length ≤ 1048576) :
    Calls Tryd.prog 25 #[v, .int .i64 t] w fun e w' => e = .returned (.tuple #[.int .i64 (restF ys t).1, .int .i64 (restF ys t).2]) ∧ Below w.heap.size w w' := by
  have H1 := Lib.hid (l03Plies_any v ys t w h hn)
  by_cases hc : pliesF ys t = 0
  · have hz := pliesF_zero hc
    have H2 := Lib.hid fun wx hx => l03Rest_any v ys t wx hx hn (by omega) hz.2.1
    rw [show restF ys t = (restTo ys t ys.length, 0) by unfold restF; rw [if_pos hc]]
    rw [hc] at H1
    have HY := Lib.hid h
    clear hz hc h
    generalize restTo ys t ys.length = R at *
    go_enter Tryd.func25, Tryd.ntmps25
    go_wp2_with fail
    refine H1.out.mono ?_
    rintro e w1 ⟨rfl, hB⟩
    have B1 := Lib.hid hB
    clear hB
    go_wp2_with fail
    refine (H2.out _ (HY.out.below B1.out)).mono ?_
    rintro e w' ⟨rfl, rfl⟩
    go_wp2
    go_ret2
    exact ⟨rfl, B1.out⟩
  · rw [show restF ys t = (0, pliesF ys t) by unfold restF; rw [if_neg hc]]
    generalize pliesF ys t = c at *
    have hcb : (c != 0) = true := by simp [hc]
    clear h
    go_enter Tryd.func25, Tryd.ntmps25
    go_wp2_with fail
    refine H1.out.mono ?_
    rintro e w1 ⟨rfl, hB⟩
    have B1 := Lib.hid hB
    clear hB
    go_wp2
    go_ret2
    exact ⟨rfl, B1.out⟩

set_option maxHeartbeats 2000000 in
theorem implRest_any (p : Nat → Addr) (v : Value) (ys : List Yn) (t : Int) (w : World) (hs : Sent w p) (h : Yarns w v ys) (hn : ys.length ≤ 1048576) :
    Calls Tryd.prog 26 #[v, .int .i64 t] w fun e w' => e = .returned (.tuple #[.int .i64 (restF ys t).1, .int .i64 (restF ys t).2]) ∧ Below w.heap.size w w' := by
  have H1 := Lib.hid (checkPlies_any p v ys t w hs h hn)
  have q1 := neqNil_err
  have q2 := neqNil_nil
  by_cases hc : pliesF ys t = 0
  · have hz := pliesF_zero hc
    have H2 := Lib.hid fun wx hx => restOf_any v ys t wx hx hn (by omega) hz.2.1
    rw [show restF ys t = (restTo ys t ys.length, 0) by unfold restF; rw [if_pos hc]]
    rw [hc, errOf_zero] at H1
    have HY := Lib.hid h
    clear hz hc h hs
    generalize restTo ys t ys.length = R at *
    go_enter Tryd.func26, Tryd.ntmps26
    go_wp2_with fail
    refine H1.out.mono ?_
    rintro e w1 ⟨rfl, hB⟩
    have B1 := Lib.hid hB
    clear hB
    go_wp2_with fail
    refine (H2.out _ (HY.out.below B1.out)).mono ?_
    rintro e w2 ⟨rfl, hB⟩
    have B2 := Lib.hid (B1.out.trans (hB.mono B1.out.size))
    clear hB
    go_wp2
    go_ret2
    exact ⟨rfl, B2.out⟩
  · rw [show restF ys t = (0, pliesF ys t) by unfold restF; rw [if_neg hc]]
    have hbd := pliesF_bd ys t
    rw [errOf_not p hc] at H1
    generalize pliesF ys t = c at *
    have H2 := Lib.hid fun wx hx => codeOf_c (p := p) c (by omega) (by omega) wx hx
    generalize p (c - 1).toNat = ad at *
    have HS := Lib.hid hs
    clear h hs
    go_enter Tryd.func26, Tryd.ntmps26
    go_wp2_with fail
    refine H1.out.mono ?_
    rintro e w1 ⟨rfl, hB⟩
    have B1 := Lib.hid hB
    clear hB
    go_wp2_with fail
    refine (H2.out _ (HS.out.below B1.out)).mono ?_
    rintro e w' ⟨rfl, rfl⟩
    go_wp2
    go_ret2
    exact ⟨rfl, B1.out⟩
end Go.Proofs.YtpkjogenkdckpaaDoor
