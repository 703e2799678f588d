/-
  No statement is proved here: the first row that cannot be knitted, in the program; condition: its errors and the library's errorType lie where its text lays them; at most 1048576 rows of at most 1048576 bytes.
-/
import Derived.Test.YtcdjabhdbobghaaDoorAsB
import Derived.Test.YtcdjabhdbobghaaDoorBrS
import Derived.Test.YtcdjabhdbobghaaDoorKnitP
namespace Go.Proofs.YtcdjabhdbobghaaDoor
open Go.ChangeShapes Go.WideShapes Go.ChangeAt Go.RowKit

set_option maxRecDepth 100000 in
theorem as_nil (tb : Nat) (w : World) :
    Calls Tryd.prog 36 #[.nilIface, .iface 74 (.pointer (some ⟨tb, 0, none⟩))] w fun e w' => e = .returned (.bool false) ∧ Below w.heap.size w w' := by
  go_enter Tryd.func36, Tryd.ntmps36
  go_wp2
  go_ret
  exact ⟨rfl, by first | exact Below.refl _ _ | go_grown⟩

set_option maxRecDepth 100000 in
set_option maxHeartbeats 8000000 in
theorem implFrow_any (p : Nat → Addr) (c : Int) (v : Value) (L : List ByteArray) (w : World) (hs : Sent7 w p) (h : Strs w v L) (hn : L.length ≤ 1048576) (hsz : ∀ j, j < L.length → (rowAt L j).size ≤ 1048576) :
    Calls Tryd.prog 21 #[.int .i64 c, v] w fun e w' => e = .returned (.tuple #[.int .i64 (frowF c L).1, .int .i64 (frowF c L).2]) ∧ Below w.heap.size w w' := by
  have HK := Lib.hid (knit_any p c v L w hs.1 h hn hsz)
  have HS := Lib.hid hs
  have HF := Lib.hid (show frowF c L = if inB c 1 60 = true then (if badF c L < 0 then (0, 6) else (badF c L, 0)) else (0, 2) from rfl)
  have HCO := Lib.hid fun wx hx => codeIn_any (p := p) false wx hx
  have q1 := neqNil_err
  have q2 := neqNil_nil
  have q3 := neqNil_row
  generalize frowF c L = R at *
  obtain ⟨a1, cp, rfl⟩ := h.len
  clear h hn hsz hs
  go_enter Tryd.func21, Tryd.ntmps21
  go_wp2_with fail
  refine HK.out.mono ?_
  rintro e w1 ⟨hB, hR⟩
  have B1 := Lib.hid hB
  rcases hR with ⟨hi, rfl⟩ | ⟨hi, k, hk, ha, hr, rfl⟩ | ⟨hok, rv, wv, rfl, ho1, ho2, _⟩
  · have hre := HF.out
    rw [hi, if_neg (by decide)] at hre
    subst hre
    clear hB hi HF HK
    unfold pz
    have T2 : Hid (Below w1.heap.size w1 ((w1.alloc (.cells #[.int .i64 0, .slice none 0 0, .slice none 0 0] 53)).alloc (.cells #[.int .i64 0] 72))) := Lib.hid (by go_grown)
    have HA := Lib.hid (as_err_bad (p 1) (w1.heap.size + 1) _ (HS.out.below (B1.out.trans (T2.out.mono B1.out.size))).2)
    go_wp2_with fail
    refine HA.out.mono ?_
    rintro e w3 ⟨rfl, hB3⟩
    have B3 := Lib.hid (B1.out.trans ((T2.out.trans (hB3.mono T2.out.size)).mono B1.out.size))
    have HC2 := Lib.hid (HCO.out w3 (HS.out.below B3.out).1)
    clear hB3 T2 HA HCO
    go_wp2_with fail
    refine HC2.out.mono ?_
    rintro e w4 ⟨rfl, rfl⟩
    go_wp2
    go_ret2
    exact ⟨rfl, B3.out⟩
  · have hb2 := (okF_bad hk ha hr).2
    have hre := HF.out
    rw [hi, if_pos rfl, hb2, if_neg (by omega)] at hre
    subst hre
    clear hB hi HF HK hk ha hr hb2 HCO
    unfold pz
    have T2 : Hid (Below w1.heap.size w1 ((w1.alloc (.cells #[.int .i64 0, .slice none 0 0, .slice none 0 0] 53)).alloc (.cells #[.int .i64 0] 72))) := Lib.hid (by go_grown)
    have HA := Lib.hid (as_bad_bad (k : Int) (.int .i64 0) (w1.heap.size + 1) _ (HS.out.below (B1.out.trans (T2.out.mono B1.out.size))).2 (by simp [go_sem]) (by simp [go_sem]))
    go_wp2_with fail
    refine HA.out.mono ?_
    rintro e w3 ⟨rfl, hB3, hcell⟩
    have B3 := Lib.hid (B1.out.trans ((T2.out.trans (hB3.mono (Nat.le_succ _))).mono B1.out.size))
    clear hB3 T2 HA
    go_wp2_with fail
    go_ret2
    exact ⟨rfl, B3.out⟩
  · obtain ⟨ra, rc, rfl⟩ := ho1.strs.len
    obtain ⟨wa, wc, rfl⟩ := ho2.ints.len
    clear ho1 ho2
    generalize (wdsTo c L (L.length + 1)).length = wm at *
    have hbd : badF c L < 0 := by
      have := hok
      unfold okF at this
      simp only [Bool.and_eq_true, decide_eq_true_eq] at this
      exact this.2
    have hi : inB c 1 60 = true := by
      have := hok
      unfold okF at this
      simp only [Bool.and_eq_true, decide_eq_true_eq] at this
      exact this.1
    have hre := HF.out
    rw [hi, if_pos rfl, if_pos hbd] at hre
    subst hre
    clear hB hi HF HK hok hbd HCO
    have T2 : Hid (Below w1.heap.size w1 ((w1.alloc (.cells #[.int .i64 c, .slice ra L.length rc, .slice wa wm wc] 53)).alloc (.cells #[.int .i64 0] 72))) := Lib.hid (by go_grown)
    have HA := Lib.hid fun wx => as_nil (w1.heap.size + 1) wx
    go_wp2_with fail
    refine (HA.out _).mono ?_
    rintro e w3 ⟨rfl, hB3⟩
    have B3 := Lib.hid (B1.out.trans ((T2.out.trans (hB3.mono T2.out.size)).mono B1.out.size))
    clear hB3 T2 HA
    go_wp2_with fail
    go_ret2
    exact ⟨rfl, B3.out⟩
end Go.Proofs.YtcdjabhdbobghaaDoor
