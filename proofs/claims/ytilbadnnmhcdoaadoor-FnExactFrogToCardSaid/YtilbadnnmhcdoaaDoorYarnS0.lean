/-
  No statement is proved here: how much yarn a fabric needs, in the document's own text; condition: rows of at most 1048576 bytes.
-/
import Derived.Test.YtilbadnnmhcdoaaDoorKnitO
namespace Go.Proofs.YtilbadnnmhcdoaaDoor
open Go.ChangeShapes Go.WideShapes Go.ChangeAt Go.RowKit

theorem mul_bd {a b A B : Int} (h0 : 0 ≤ a) (h1 : a ≤ A) (k0 : 0 ≤ b) (k1 : b ≤ B) : 0 ≤ a * b ∧ a * b ≤ A * B :=
  ⟨Int.mul_nonneg h0 k0, Int.mul_le_mul h1 k1 k0 (by omega)⟩
/-- What the first rows need. -/
def sumN (L : List ByteArray) : Nat → Int
  | 0 => 0
  | k + 1 => sumN L k + needsF (rowAt L k)
theorem sumN_bd {L : List ByteArray} : ∀ {k : Nat}, (∀ j, j < k → (rowAt L j).size ≤ 120) → 0 ≤ sumN L k ∧ sumN L k ≤ 720 * k
  | 0, _ => by simp [sumN]
  | k + 1, h => by
    have ih := sumN_bd (k := k) fun j hj => h j (by omega)
    have h1 := needs_bd (rowAt L k) (rowAt L k).size
    have h2 := h k (by omega)
    rw [sumN]
    unfold needsF
    omega
/-- The code of a fabric, and of what is asked besides. -/
def askF (c : Int) (L : List ByteArray) (f : Bool) : Int := if okF c L = true then (if f = true then 0 else 2) else 1
/-- What YarnFor answers. -/
def yarnF (c : Int) (L : List ByteArray) (g : Int) : Int × Int := if askF c L (inB g 1 100) = 0 then ((4 * c + sumN L L.length) * g, 0) else (0, askF c L (inB g 1 100))
theorem askF_zero {c : Int} {L : List ByteArray} {f : Bool} (h : askF c L f = 0) : okF c L = true ∧ f = true := by
  unfold askF at h
  split at h
  · rename_i h1
    split at h
    · rename_i h2
      exact ⟨h1, h2⟩
    · simp at h
  · simp at h

set_option maxRecDepth 100000 in
set_option maxHeartbeats 2000000 in
theorem specAsked_any (b : Nat) (c : Int) (v : Value) (L : List ByteArray) (f : Bool) (w : World) (c0 : w.cell? ⟨b, 0, none⟩ = some (.int .i16 c)) (c1 : w.cell? ⟨b, 1, none⟩ = some v) (hc : -32768 ≤ c ∧ c ≤ 32767)
    (h : Strs w v L) (hn : L.length ≤ 1048576) (hs : ∀ j, j < L.length → (rowAt L j).size ≤ 1048576) :
    Calls Tryd.prog 47 #[.pointer (some ⟨b, 0, none⟩), .bool f] w fun e w' => e = .returned (.int .i64 (askF c L f)) ∧ ∃ n, w' = w.drewN n := by
  have H := Lib.hid (specOk_any b c v L w c0 c1 hc h hn hs)
  have HR := Lib.hid (show askF c L f = if okF c L = true then (if f = true then 0 else 2) else 1 from rfl)
  generalize askF c L f = r at *
  clear c0 c1 h hn hs hc
  cases hk : okF c L with
  | false =>
    rw [hk] at H HR
    go_enter Tryd.func47, Tryd.ntmps47
    go_wp2_with fail
    refine H.out.mono ?_
    rintro e w2 ⟨rfl, n, rfl⟩
    go_wp2
    go_ret
    exact ⟨ret_int HR.out.symm, n, rfl⟩
  | true =>
    rw [hk] at H HR
    cases f with
    | false =>
      go_enter Tryd.func47, Tryd.ntmps47
      go_wp2_with fail
      refine H.out.mono ?_
      rintro e w2 ⟨rfl, n, rfl⟩
      go_wp2
      go_ret
      exact ⟨ret_int HR.out.symm, n, rfl⟩
    | true =>
      go_enter Tryd.func47, Tryd.ntmps47
      go_wp2_with fail
      refine H.out.mono ?_
      rintro e w2 ⟨rfl, n, rfl⟩
      go_wp2
      go_ret
      exact ⟨ret_int HR.out.symm, n, rfl⟩
theorem specGauge_any (n : Int) (w : World) :
    Calls Tryd.prog 48 #[.int .i64 n] w fun e w' => e = .returned (.bool (inB n 1 100)) ∧ w = w' := by
  have H := Lib.hid (in_any n 1 100 w)
  go_enter Tryd.func48, Tryd.ntmps48
  go_wp2_with fail
  refine H.out.mono ?_
  rintro e w' ⟨rfl, rfl⟩
  go_wp2
  go_ret
  exact ⟨rfl, rfl⟩

set_option maxRecDepth 100000 in
set_option maxHeartbeats 4000000 in
theorem specNeeds_any (s : ByteArray) (w : World) (hs : s.size ≤ 1048576) :
    Calls Tryd.prog 49 #[.string s] w fun e w' => e = .returned (.int .i64 (needsF s)) ∧ w = w' := by
  have HI := Lib.hid fun k hk wx => chAt_idx s k hk wx
  have HM := Lib.hid fun k => needs_bd s k
  have HT := Lib.hid fun k => show sumB nd s (k + 1) = sumB nd s k + nd (chAt s k) from rfl
  have HE := Lib.hid (show needsF s = sumB nd s s.size from rfl)
  generalize needsF s = R at *
  obtain ⟨n, hn⟩ : ∃ n, n = s.size := ⟨_, rfl⟩
  have hsz : s.size = n := hn.symm
  rw [hsz] at hs HI HE
  clear hn
  go_enter Tryd.func49, Tryd.ntmps49
  go_wp2
  go_loop [3, 4] (fun t i => ∃ k : Nat, k ≤ n ∧ i = .int .i64 k ∧ t = .int .i64 (sumB nd s k)) (fun _ i => n - (intOf i).toNat)
  case atStart => exact ⟨0, Nat.zero_le _, rfl, rfl⟩
  case round =>
    obtain ⟨k, hk, rfl, rfl⟩ := hrel
    have hb2 := HM.out k
    by_cases hlt : k < n
    · have q := HI.out k hlt
      have ht := HT.out k
      generalize chAt s k = b at *
      generalize sumB nd s k = m at *
      rcases st_cases b with (rfl | rfl | rfl | rfl | rfl) | ⟨h1, h2, h3, h4, h5⟩
      · have HT2 := Lib.hid (ht.trans (show m + nd 107 = m + 3 from rfl))
        clear ht
        go_wp2
        go_round
        case rel => exact ⟨k + 1, by omega, by go_num, by rw [HT2.out]⟩
        case measure => simp [intOf]; omega
      · have HT2 := Lib.hid (ht.trans (show m + nd 105 = m + 6 from rfl))
        clear ht
        go_wp2
        go_round
        case rel => exact ⟨k + 1, by omega, by go_num, by rw [HT2.out]⟩
        case measure => simp [intOf]; omega
      · have HT2 := Lib.hid (ht.trans (show m + nd 98 = m + 5 from rfl))
        clear ht
        go_wp2
        go_round
        case rel => exact ⟨k + 1, by omega, by go_num, by rw [HT2.out]⟩
        case measure => simp [intOf]; omega
      · have HT2 := Lib.hid (ht.trans (show m + nd 100 = m + 4 from rfl))
        clear ht
        go_wp2
        go_round
        case rel => exact ⟨k + 1, by omega, by go_num, by rw [HT2.out]⟩
        case measure => simp [intOf]; omega
      · have HT2 := Lib.hid (ht.trans (show m + nd 111 = m + 4 from rfl))
        clear ht
        go_wp2
        go_round
        case rel => exact ⟨k + 1, by omega, by go_num, by rw [HT2.out]⟩
        case measure => simp [intOf]; omega
      · have e : nd b = 0 := by simp [nd, *]
        have HT2 : Hid (sumB nd s (k + 1) = m) := by rw [ht, e]; exact Int.add_zero m
        have g1 : ((b : Int) == 107) = false := by rw [beq_eq_false_iff_ne]; omega
        have g2 : ((b : Int) == 105) = false := by rw [beq_eq_false_iff_ne]; omega
        have g3 : ((b : Int) == 98) = false := by rw [beq_eq_false_iff_ne]; omega
        have g4 : ((b : Int) == 100) = false := by rw [beq_eq_false_iff_ne]; omega
        have g5 : ((b : Int) == 111) = false := by rw [beq_eq_false_iff_ne]; omega
        clear ht e h1 h2 h3 h4 h5
        go_wp2
        go_round
        case rel => exact ⟨k + 1, by omega, by go_num, by rw [HT2.out]⟩
        case measure => simp [intOf]; omega
    · have hkn : k = n := by omega
      subst hkn
      generalize sumB nd s k = m at *
      go_wp2
      go_ret
      exact ⟨ret_int HE.out.symm, rfl⟩

end Go.Proofs.YtilbadnnmhcdoaaDoor
