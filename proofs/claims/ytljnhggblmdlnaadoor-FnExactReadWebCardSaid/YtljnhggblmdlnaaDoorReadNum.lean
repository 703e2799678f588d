/-
  No statement is proved here: what the document's own text reads as a number; condition: none.
-/
import Derived.Test.YtljnhggblmdlnaaDoorReadDefs
import Derived.Test.YtljnhggblmdlnaaDoorBase
import Derived.IntWalk
namespace Go.Proofs.YtljnhggblmdlnaaDoor
open Go.ChangeShapes Go.WideShapes Go.ChangeAt Go.RowKit

/-- The k-th byte of a text. -/
def byteAt (s : ByteArray) (k : Nat) : Nat := (s.data.toList.getD k 0).toNat
theorem byteAt_le (s : ByteArray) (k : Nat) : byteAt s k ≤ 255 := by
  have := UInt8.toNat_lt (s.data.toList.getD k 0)
  unfold byteAt
  omega
theorem idx_str (s : ByteArray) (k : Nat) (hk : k < s.size) (wx : World) : (Instr.index 9 (.string s) (.int .i64 (k : Int))).run Tryd.prog wx = .ok (.int .u8 (byteAt s k : Nat)) wx := by
  rw [run_index_string (P := Tryd.prog) wx _ s .i64 k Tryd.underlying9, dif_pos ⟨by omega, by omega⟩]
  have h : k < s.data.toList.length := by simpa using hk
  rw [byteAt, List.getD, List.getElem?_eq_getElem h]
  rfl
theorem drop_byte (s : ByteArray) (k : Nat) (hk : k < s.size) : ∃ c : UInt8, s.data.toList.drop k = c :: s.data.toList.drop (k + 1) ∧ c.toNat = byteAt s k := by
  have h : k < s.data.toList.length := by simpa using hk
  refine ⟨s.data.toList[k], List.drop_eq_getElem_cons h, ?_⟩
  rw [byteAt, List.getD, List.getElem?_eq_getElem h]
  rfl

set_option maxRecDepth 100000 in
set_option maxHeartbeats 2000000 in
theorem l01Number_any (s : ByteArray) (w : World) :
    Calls Tryd.prog 25 #[.string s] w fun e w' => e = .returned (.tuple #[.int .i64 (numN s.data.toList : Nat), .bool (numB s.data.toList)]) ∧ w = w' := by
  have hsl : s.data.toList.length = s.size := by simp
  by_cases h0 : s.size = 0
  · have hs : s = ⟨#[]⟩ := by
      cases s with
      | mk d =>
        have : d = #[] := Array.eq_empty_of_size_eq_zero h0
        rw [this]
    subst hs
    go_enter Tryd.func25, Tryd.ntmps25
    go_wp2_with fail
    go_returns
    exact ⟨rfl, rfl⟩
  · have he1 : s.toList.isEmpty = false := by
      rw [List.isEmpty_eq_false_iff, toList_is]
      intro e
      rw [e] at hsl
      simp at hsl
      omega
    have hne : s.data.toList ≠ [] := fun e => by rw [e] at hsl; simp at hsl; omega
    obtain ⟨m, hm⟩ : ∃ m, m = s.size := ⟨_, rfl⟩
    have hms : s.size = m := hm.symm
    have HS := Lib.hid hms
    rw [hms] at hsl
    obtain ⟨b, hb⟩ : ∃ b, b = byteAt s 0 := ⟨_, rfl⟩
    have hi0 : ∀ wx : World, (Instr.index 9 (.string s) (.int .i64 0)).run Tryd.prog wx = .ok (.int .u8 (b : Nat)) wx := fun wx => by
      rw [hb]
      exact idx_str s 0 (by omega) wx
    have hhd : s.data.toList.head? = some (UInt8.ofNat b) := by
      obtain ⟨c, h1, h2⟩ := drop_byte s 0 (by omega)
      rw [List.drop_zero] at h1
      rw [h1, hb, ← h2]
      simp
    have hb255 : b ≤ 255 := by rw [hb]; exact byteAt_le s 0
    by_cases h9 : 9 < m
    · have hbad := numF_bad (l := s.data.toList) (.inr (.inl (by rw [hsl]; exact h9)))
      rw [hbad.1, hbad.2]
      have h9' : (9 : Int) < (m : Int) := by omega
      clear hhd hb hm hbad hne h0 HS
      go_enter Tryd.func25, Tryd.ntmps25
      go_wp2_with fail
      go_returns
      exact ⟨rfl, rfl⟩
    · have h9' : (m : Int) ≤ 9 := by omega
      by_cases hC : b = 48 ∧ 1 < m
      · have hbad := numF_bad (l := s.data.toList) (.inr (.inr ⟨by rw [hhd, hC.1]; rfl, by rw [hsl]; exact hC.2⟩))
        rw [hbad.1, hbad.2]
        have hb48 : ((b : Int) == 48) = true := by rw [beq_iff_eq]; omega
        have h1' : (1 : Int) < (m : Int) := by omega
        clear hhd hb hm hbad hne h0 HS h9 hC
        go_enter Tryd.func25, Tryd.ntmps25
        go_wp2_with fail
        go_returns
        exact ⟨rfl, rfl⟩
      · have hF : numF s.data.toList = numV 0 s.data.toList := by
          unfold numF
          rw [if_neg]
          intro hh
          rcases hh with e | e | ⟨e1, e2⟩
          · exact hne e
          · omega
          · rw [hhd] at e1
            have e3 : UInt8.ofNat b = 48 := by simpa using e1
            have e4 := congrArg UInt8.toNat e3
            rw [UInt8.toNat_ofNat_of_lt' (by simp only [UInt8.size]; omega)] at e4
            exact hC ⟨by simpa using e4, by omega⟩
        rw [numN, numB, hF]
        obtain ⟨R, hR⟩ : ∃ R, R = numV 0 s.data.toList := ⟨_, rfl⟩
        rw [← hR]
        have HR := Lib.hid hR
        have HIX := Lib.hid fun k hk wx => idx_str s k hk wx
        have HD := Lib.hid fun k hk => drop_byte s k hk
        have HBL := Lib.hid (byteAt_le s)
        have HSL := Lib.hid hsl
        have hgd : (b = 48 ∧ m ≤ 1) ∨ b ≠ 48 := by omega
        have hloop : ∀ (P : Prop), P ∨ True := fun _ => .inr trivial
        clear hloop hR hF hne hhd hb hm hsl h0 h9 hC
        rcases hgd with ⟨h48, hm1⟩ | h48
        · have hb48 : ((b : Int) == 48) = true := by rw [beq_iff_eq]; omega
          have h1' : (m : Int) ≤ 1 := by omega
          have H48 := Lib.hid h48
          clear h48 hm1
          go_enter Tryd.func25, Tryd.ntmps25
          go_wp2_with fail
          clear hb48 h1' hi0 he1
          go_loopw [4, 5] (fun a i wr => ∃ (k acc : Nat), k ≤ m ∧ i = .int .i64 k ∧ a = .int .i64 acc ∧ Hid (numV acc (s.data.toList.drop k) = R) ∧ Hid (acc < 10 ^ k) ∧ Hid (wr = w)) (fun _ i _ => m - (intOf i).toNat)
          case atStart => exact ⟨0, 0, Nat.zero_le _, rfl, rfl, HR.out.symm, Lib.hid (by decide), rfl⟩
          case round =>
            obtain ⟨k, acc, hk, rfl, rfl, hV, hA, hW⟩ := hrel
            have hwr := hW.out
            subst hwr
            by_cases hlt : k < m
            · have hki : (k : Int) < (m : Int) := by omega
              have hix := HIX.out k (by rw [HS.out]; exact hlt)
              obtain ⟨c, hc1, hc2⟩ := HD.out k (by rw [HS.out]; exact hlt)
              have hv := hV.out
              rw [hc1, numV] at hv
              have hbl := HBL.out k
              rw [hc2] at hv
              obtain ⟨y, hy⟩ : ∃ y, y = byteAt s k := ⟨_, rfl⟩
              rw [← hy] at hix hv hbl
              have h10 : 10 ^ k ≤ 10 ^ 8 := Nat.pow_le_pow_right (by decide) (by omega)
              have hacc : acc < 100000000 := Nat.lt_of_lt_of_le hA.out h10
              clear hy hc1 hc2 h10
              by_cases hlo : y < 48
              · rw [if_neg (by omega)] at hv
                have hlo' : (y : Int) < 48 := by omega
                have HV := Lib.hid hv
                clear hv hlo hV hA hW
                go_wp2_with fail
                go_returns
                rw [← HV.out]
                exact ⟨rfl, rfl⟩
              · by_cases hhi : 57 < y
                · rw [if_neg (by omega)] at hv
                  have hlo' : (48 : Int) ≤ (y : Int) := by omega
                  have hhi' : (57 : Int) < (y : Int) := by omega
                  have HV := Lib.hid hv
                  clear hv hlo hhi hV hA hW
                  go_wp2_with fail
                  go_returns
                  rw [← HV.out]
                  exact ⟨rfl, rfl⟩
                · rw [if_pos (by omega)] at hv
                  have hlo' : (48 : Int) ≤ (y : Int) := by omega
                  have hhi' : (y : Int) ≤ 57 := by omega
                  have hm10 : IntKind.i64.wrap (10 * (acc : Int)) = 10 * (acc : Int) := IntWalk.i64_in _ (by omega)
                  have hsub : IntKind.u8.wrap ((y : Int) - 48) = (y : Int) - 48 := IntWalk.u8_in _ (by omega)
                  have hcv : IntKind.i64.wrap ((y : Int) - 48) = (y : Int) - 48 := IntWalk.i64_in _ (by omega)
                  have hsum : IntKind.i64.wrap (10 * (acc : Int) + ((y : Int) - 48)) = 10 * (acc : Int) + ((y : Int) - 48) := IntWalk.i64_in _ (by omega)
                  have HV := Lib.hid hv
                  have HA2 : Hid (10 * acc + (y - 48) < 10 ^ (k + 1)) := by
                    have := hA.out
                    show 10 * acc + (y - 48) < 10 ^ (k + 1)
                    rw [Nat.pow_succ]
                    omega
                  have HE : Hid (10 * (acc : Int) + ((y : Int) - 48) = ((10 * acc + (y - 48) : Nat) : Int)) := by
                    show 10 * (acc : Int) + ((y : Int) - 48) = ((10 * acc + (y - 48) : Nat) : Int)
                    omega
                  clear hv hlo hhi hV hA hW hacc
                  go_wp2_with fail
                  go_roundw
                  case rel => exact ⟨k + 1, 10 * acc + (y - 48), by omega, by go_num, by first | (rw [HE.out]) | (rw [← HE.out]) | (rw [HE.out]; rfl), HV, HA2, trivial⟩
                  case measure => simp [intOf]; omega
            · have hkm : k = m := by omega
              have hv := hV.out
              rw [hkm, List.drop_eq_nil_of_le (by rw [HSL.out]; exact Nat.le_refl _), numV] at hv
              have HV := Lib.hid hv
              have hki : (m : Int) ≤ (k : Int) := by omega
              clear hv hkm hlt hV hA hW
              go_wp2_with fail
              go_returns
              rw [← HV.out]
              exact ⟨rfl, rfl⟩
        · have hb48 : ((b : Int) == 48) = false := by rw [beq_eq_false_iff_ne]; omega
          clear h48
          go_enter Tryd.func25, Tryd.ntmps25
          go_wp2_with fail
          clear hb48 hi0 he1
          go_loopw [4, 5] (fun a i wr => ∃ (k acc : Nat), k ≤ m ∧ i = .int .i64 k ∧ a = .int .i64 acc ∧ Hid (numV acc (s.data.toList.drop k) = R) ∧ Hid (acc < 10 ^ k) ∧ Hid (wr = w)) (fun _ i _ => m - (intOf i).toNat)
          case atStart => exact ⟨0, 0, Nat.zero_le _, rfl, rfl, HR.out.symm, Lib.hid (by decide), rfl⟩
          case round =>
            obtain ⟨k, acc, hk, rfl, rfl, hV, hA, hW⟩ := hrel
            have hwr := hW.out
            subst hwr
            by_cases hlt : k < m
            · have hki : (k : Int) < (m : Int) := by omega
              have hix := HIX.out k (by rw [HS.out]; exact hlt)
              obtain ⟨c, hc1, hc2⟩ := HD.out k (by rw [HS.out]; exact hlt)
              have hv := hV.out
              rw [hc1, numV] at hv
              have hbl := HBL.out k
              rw [hc2] at hv
              obtain ⟨y, hy⟩ : ∃ y, y = byteAt s k := ⟨_, rfl⟩
              rw [← hy] at hix hv hbl
              have h10 : 10 ^ k ≤ 10 ^ 8 := Nat.pow_le_pow_right (by decide) (by omega)
              have hacc : acc < 100000000 := Nat.lt_of_lt_of_le hA.out h10
              clear hy hc1 hc2 h10
              by_cases hlo : y < 48
              · rw [if_neg (by omega)] at hv
                have hlo' : (y : Int) < 48 := by omega
                have HV := Lib.hid hv
                clear hv hlo hV hA hW
                go_wp2_with fail
                go_returns
                rw [← HV.out]
                exact ⟨rfl, rfl⟩
              · by_cases hhi : 57 < y
                · rw [if_neg (by omega)] at hv
                  have hlo' : (48 : Int) ≤ (y : Int) := by omega
                  have hhi' : (57 : Int) < (y : Int) := by omega
                  have HV := Lib.hid hv
                  clear hv hlo hhi hV hA hW
                  go_wp2_with fail
                  go_returns
                  rw [← HV.out]
                  exact ⟨rfl, rfl⟩
                · rw [if_pos (by omega)] at hv
                  have hlo' : (48 : Int) ≤ (y : Int) := by omega
                  have hhi' : (y : Int) ≤ 57 := by omega
                  have hm10 : IntKind.i64.wrap (10 * (acc : Int)) = 10 * (acc : Int) := IntWalk.i64_in _ (by omega)
                  have hsub : IntKind.u8.wrap ((y : Int) - 48) = (y : Int) - 48 := IntWalk.u8_in _ (by omega)
                  have hcv : IntKind.i64.wrap ((y : Int) - 48) = (y : Int) - 48 := IntWalk.i64_in _ (by omega)
                  have hsum : IntKind.i64.wrap (10 * (acc : Int) + ((y : Int) - 48)) = 10 * (acc : Int) + ((y : Int) - 48) := IntWalk.i64_in _ (by omega)
                  have HV := Lib.hid hv
                  have HA2 : Hid (10 * acc + (y - 48) < 10 ^ (k + 1)) := by
                    have := hA.out
                    show 10 * acc + (y - 48) < 10 ^ (k + 1)
                    rw [Nat.pow_succ]
                    omega
                  have HE : Hid (10 * (acc : Int) + ((y : Int) - 48) = ((10 * acc + (y - 48) : Nat) : Int)) := by
                    show 10 * (acc : Int) + ((y : Int) - 48) = ((10 * acc + (y - 48) : Nat) : Int)
                    omega
                  clear hv hlo hhi hV hA hW hacc
                  go_wp2_with fail
                  go_roundw
                  case rel => exact ⟨k + 1, 10 * acc + (y - 48), by omega, by go_num, by first | (rw [HE.out]) | (rw [← HE.out]) | (rw [HE.out]; rfl), HV, HA2, trivial⟩
                  case measure => simp [intOf]; omega
            · have hkm : k = m := by omega
              have hv := hV.out
              rw [hkm, List.drop_eq_nil_of_le (by rw [HSL.out]; exact Nat.le_refl _), numV] at hv
              have HV := Lib.hid hv
              have hki : (m : Int) ≤ (k : Int) := by omega
              clear hv hkm hlt hV hA hW
              go_wp2_with fail
              go_returns
              rw [← HV.out]
              exact ⟨rfl, rfl⟩
end Go.Proofs.YtljnhggblmdlnaaDoor
