/-
  No statement is proved here: what is wrong with plies, and their rest, as the program and as the document's own text tell it; condition: the errors lie where the text lays them; at most 1048576 yarns.
-/
import Derived.Test.YtpkjogenkdckpaaDoorAsked
import Derived.Test.YtpkjogenkdckpaaDoorSize
namespace Go.Proofs.YtpkjogenkdckpaaDoor
open Go.ChangeShapes Go.WideShapes Go.ChangeAt Go.RowKit

/-- The code of plies and their turns. -/
def pliesF (ys : List Yn) (t : Int) : Int := if askedF ys (inB t (-2000) 2000) = 0 then (if inB (ys.length : Int) 2 6 = true then 0 else 4) else askedF ys (inB t (-2000) 2000)
theorem pliesF_bd (ys : List Yn) (t : Int) : 0 ≤ pliesF ys t ∧ pliesF ys t ≤ 4 := by
  have := askedF_bd ys (inB t (-2000) 2000)
  unfold pliesF
  split
  · split <;> omega
  · omega
theorem pliesF_zero {ys : List Yn} {t : Int} (h : pliesF ys t = 0) : allY ys = true ∧ (-2000 ≤ t ∧ t ≤ 2000) ∧ 2 ≤ ys.length ∧ ys.length ≤ 6 := by
  unfold pliesF at h
  split at h
  · rename_i h1
    split at h
    · rename_i h2
      have := inB_of h2
      exact ⟨(askedF_zero h1).1, inB_of (askedF_zero h1).2.1, by omega, by omega⟩
    · omega
  · omega

set_option maxHeartbeats 1000000 in
theorem l03Plies_any (v : Value) (ys : List Yn) (t : Int) (w : World) (h : Yarns w v ys) (hn : ys.length ≤ 1048576) :
    Calls Tryd.prog 56 #[v, .int .i64 t] w fun e w' => e = .returned (.int .i64 (pliesF ys t)) ∧ Below w.heap.size w w' := by
  have H1 := Lib.hid (in_any t (-2000) 2000 w)
  have H2 := Lib.hid (l03Asked_any v ys (inB t (-2000) 2000) w h hn)
  have H3 := Lib.hid fun wx => in_any (ys.length : Int) 2 6 wx
  obtain ⟨a0, c0, rfl⟩ := h.len
  have hP : askedF ys (inB t (-2000) 2000) = 0 → pliesF ys t = if inB (ys.length : Int) 2 6 = true then 0 else 4 := fun h => by unfold pliesF; rw [if_pos h]
  have hP' : ¬ askedF ys (inB t (-2000) 2000) = 0 → pliesF ys t = askedF ys (inB t (-2000) 2000) := fun h => by unfold pliesF; rw [if_neg h]
  generalize askedF ys (inB t (-2000) 2000) = c at *
  generalize inB (ys.length : Int) 2 6 = r at *
  generalize pliesF ys t = out at *
  generalize inB t (-2000) 2000 = fine at *
  by_cases hc : c = 0
  · subst hc
    have HP := Lib.hid (hP rfl)
    clear hP hP' h
    cases r with
    | true =>
      go_enter Tryd.func56, Tryd.ntmps56
      go_wp2_with fail
      refine H1.out.mono ?_
      rintro e w' ⟨rfl, rfl⟩
      go_wp2_with fail
      refine H2.out.mono ?_
      rintro e w1 ⟨rfl, hB⟩
      have B1 := Lib.hid hB
      clear hB
      go_wp2_with fail
      refine (H3.out _).mono ?_
      rintro e w' ⟨rfl, rfl⟩
      go_wp2_with fail
      go_ret
      exact ⟨ret_int (by rw [HP.out]; rfl), B1.out⟩
    | false =>
      go_enter Tryd.func56, Tryd.ntmps56
      go_wp2_with fail
      refine H1.out.mono ?_
      rintro e w' ⟨rfl, rfl⟩
      go_wp2_with fail
      refine H2.out.mono ?_
      rintro e w1 ⟨rfl, hB⟩
      have B1 := Lib.hid hB
      clear hB
      go_wp2_with fail
      refine (H3.out _).mono ?_
      rintro e w' ⟨rfl, rfl⟩
      go_wp2_with fail
      go_ret
      exact ⟨ret_int (by rw [HP.out]; rfl), B1.out⟩
  · have HP := Lib.hid (hP' hc)
    have hcb : (c == 0) = false := by simp [hc]
    clear hP hP' h
    go_enter Tryd.func56, Tryd.ntmps56
    go_wp2_with fail
    refine H1.out.mono ?_
    rintro e w' ⟨rfl, rfl⟩
    go_wp2_with fail
    refine H2.out.mono ?_
    rintro e w1 ⟨rfl, hB⟩
    have B1 := Lib.hid hB
    clear hB
    go_wp2_with fail
    go_ret
    exact ⟨ret_int (by rw [HP.out]), B1.out⟩

theorem neqNil_err (a : Addr) (w : World) : (binOp .neq 68 (errAt a) .nilIface).run Tryd.prog w = .ok (.bool true) w := by kernel_rfl
theorem neqNil_nil (w : World) : (binOp .neq 68 .nilIface .nilIface).run Tryd.prog w = .ok (.bool false) w := by kernel_rfl

set_option maxRecDepth 100000 in
set_option maxHeartbeats 2000000 in
theorem checkPlies_any (p : Nat → Addr) (v : Value) (ys : List Yn) (t : Int) (w : World) (hs : Sent w p) (h : Yarns w v ys) (hn : ys.length ≤ 1048576) :
    Calls Tryd.prog 60 #[v, .int .i64 t] w fun e w' => e = .returned (errOf p (pliesF ys t)) ∧ Below w.heap.size w w' := by
  obtain ⟨a0, c0, rfl⟩ := h.len
  have H2 := Lib.hid (check3_any p w.heap.size 3 (.slice a0 ys.length c0) ys t (-2000) 2000 (w.alloc (.cells #[.iface 82 (.slice a0 ys.length c0), .iface 71 (.agg #[.int .i64 t, .int .i64 (-2000), .int .i64 2000]), .iface 85 (.int .i64 ys.length)] 101))
    (hs.below ((Below.refl _ _).alloc (Nat.le_refl _) _)) (h.below ((Below.refl _ _).alloc (Nat.le_refl _) _)) hn (by simp [go_sem]) (by simp [go_sem]) (by simp [go_sem]))
  have hP : askedF ys (inB t (-2000) 2000) = 0 → pliesF ys t = if inB (ys.length : Int) 2 6 = true then 0 else 4 := fun h => by unfold pliesF; rw [if_pos h]
  have hP' : ¬ askedF ys (inB t (-2000) 2000) = 0 → pliesF ys t = askedF ys (inB t (-2000) 2000) := fun h => by unfold pliesF; rw [if_neg h]
  have H3 := Lib.hid fun hB => (show ∀ w', Below w.heap.size w w' → w'.cell? ⟨3, 0, none⟩ = some (errAt (p 3)) from fun w' hB => (hs.below hB).1.2.2.2.1) hB
  clear hs h
  generalize askedF ys (inB t (-2000) 2000) = c at *
  generalize pliesF ys t = out at *
  have q1 := neqNil_err
  have q2 := neqNil_nil
  by_cases hc : c = 0
  · subst hc
    rw [errOf_zero] at H2
    have hp := hP rfl
    clear hP hP'
    by_cases h2 : ys.length < 2
    · rw [inB_mkno (.inl (by omega))] at hp
      have HP := Lib.hid hp
      clear hp
      go_enter Tryd.func60, Tryd.ntmps60
      go_wp2_with fail
      refine H2.out.mono ?_
      rintro e w1 ⟨rfl, hB⟩
      have B1 := Lib.hid (((Below.refl w.heap.size w).alloc (Nat.le_refl _) _).trans (hB.mono (by simp)))
      have g3 := H3.out _ B1.out
      clear hB
      go_wp2_with fail
      go_ret
      exact ⟨by rw [HP.out]; rfl, B1.out⟩
    · by_cases h6 : 6 < ys.length
      · rw [inB_mkno (.inr (by omega))] at hp
        have HP := Lib.hid hp
        clear hp
        go_enter Tryd.func60, Tryd.ntmps60
        go_wp2_with fail
        refine H2.out.mono ?_
        rintro e w1 ⟨rfl, hB⟩
        have B1 := Lib.hid (((Below.refl w.heap.size w).alloc (Nat.le_refl _) _).trans (hB.mono (by simp)))
        have g3 := H3.out _ B1.out
        clear hB
        go_wp2_with fail
        go_ret
        exact ⟨by rw [HP.out]; rfl, B1.out⟩
      · rw [inB_mk (by omega)] at hp
        have HP := Lib.hid hp
        clear hp
        go_enter Tryd.func60, Tryd.ntmps60
        go_wp2_with fail
        refine H2.out.mono ?_
        rintro e w1 ⟨rfl, hB⟩
        have B1 := Lib.hid (((Below.refl w.heap.size w).alloc (Nat.le_refl _) _).trans (hB.mono (by simp)))
        clear hB
        go_wp2_with fail
        go_ret
        exact ⟨by rw [HP.out]; rfl, B1.out⟩
  · rw [errOf_not p hc] at H2
    have HP := Lib.hid (show errOf p out = errAt (p (c - 1).toNat) by rw [hP' hc, errOf_not p hc])
    clear hP hP'
    generalize p (c - 1).toNat = ad at *
    go_enter Tryd.func60, Tryd.ntmps60
    go_wp2_with fail
    refine H2.out.mono ?_
    rintro e w1 ⟨rfl, hB⟩
    have B1 := Lib.hid (((Below.refl w.heap.size w).alloc (Nat.le_refl _) _).trans (hB.mono (by simp)))
    clear hB
    go_wp2_with fail
    go_ret
    exact ⟨by rw [HP.out]; rfl, B1.out⟩
end Go.Proofs.YtpkjogenkdckpaaDoor
