/-
  No statement is proved here: what the document's own text says of rows and fabrics; condition: rows of at most 1048576 bytes.
-/
import Derived.Test.YtcgcaghmpegehaaDoorKnit
import Derived.Deep.RegionHeld3
namespace Go.Proofs.YtcgcaghmpegehaaDoor
open Go.ChangeShapes Go.WideShapes Go.ChangeAt Go.RowKit

set_option maxHeartbeats 1000000 in
theorem specTk_any (b : Nat) (w : World) :
    Calls Tryd.prog 27 #[.int .u8 (b : Int)] w fun e w' => e = .returned (.int .i64 (tk b)) ∧ w = w' := by
  rcases st_cases b with (rfl | rfl | rfl | rfl | rfl) | ⟨h1, h2, h3, h4, h5⟩
  all_goals try
    go_enter Tryd.func27, Tryd.ntmps27
    go_wp2
    go_ret
    exact ⟨rfl, rfl⟩
  have e : tk b = -1 := by simp [tk, *]
  rw [e]
  have g1 : ((b : Int) == 107) = false := by rw [beq_eq_false_iff_ne]; omega
  have g2 : ((b : Int) == 105) = false := by rw [beq_eq_false_iff_ne]; omega
  have g3 : ((b : Int) == 98) = false := by rw [beq_eq_false_iff_ne]; omega
  have g4 : ((b : Int) == 100) = false := by rw [beq_eq_false_iff_ne]; omega
  have g5 : ((b : Int) == 111) = false := by rw [beq_eq_false_iff_ne]; omega
  clear h1 h2 h3 h4 h5 e
  go_enter Tryd.func27, Tryd.ntmps27
  go_wp2
  go_ret
  exact ⟨rfl, rfl⟩

set_option maxHeartbeats 1000000 in
theorem specMk_any (b : Nat) (w : World) :
    Calls Tryd.prog 28 #[.int .u8 (b : Int)] w fun e w' => e = .returned (.int .i64 (mk b)) ∧ w = w' := by
  by_cases h1 : b = 105
  · subst h1
    go_enter Tryd.func28, Tryd.ntmps28
    go_wp2
    go_ret
    exact ⟨rfl, rfl⟩
  · have g1 : ((b : Int) == 105) = false := by rw [beq_eq_false_iff_ne]; omega
    by_cases h2 : b = 98
    · subst h2
      go_enter Tryd.func28, Tryd.ntmps28
      go_wp2
      go_ret
      exact ⟨rfl, rfl⟩
    · have g2 : ((b : Int) == 98) = false := by rw [beq_eq_false_iff_ne]; omega
      have e : mk b = 1 := by simp [mk, *]
      rw [e]
      clear h1 h2 e
      go_enter Tryd.func28, Tryd.ntmps28
      go_wp2
      go_ret
      exact ⟨rfl, rfl⟩

/-- How many loops a row takes and makes, and whether all its letters are stitches. -/
def rowF (s : ByteArray) : Int × Int × Bool := if allSt s = true then (takesF s, makesF s, true) else (0, 0, false)
theorem rowF_yes {s : ByteArray} (h : allSt s = true) : rowF s = (takesF s, makesF s, true) := by rw [rowF, if_pos h]
theorem rowF_no {s : ByteArray} (h : allSt s = false) : rowF s = (0, 0, false) := by rw [rowF, if_neg (by rw [h]; decide)]

set_option maxHeartbeats 2000000 in
theorem specRow_any (s : ByteArray) (w : World) (hs : s.size ≤ 1048576) :
    Calls Tryd.prog 22 #[.string s] w fun e w' => e = .returned (.tuple #[.int .i64 (rowF s).1, .int .i64 (rowF s).2.1, .bool (rowF s).2.2]) ∧ w = w' := by
  have HI := Lib.hid fun k hk wx => chAt_idx s k hk wx
  have HB := Lib.hid fun k (h : ∀ j, j < k → isSt (chAt s j) = true) => takes_bd h
  have HM := Lib.hid fun k => makes_bd s k
  have HY := Lib.hid fun (h : ∀ j, j < s.size → isSt (chAt s j) = true) => rowF_yes (s := s) (allK_all h)
  have HN := Lib.hid fun k (hk : k < s.size) (h : isSt (chAt s k) = false) => rowF_no (s := s) (allK_no hk h)
  have HT := Lib.hid fun k => show sumB tk s (k + 1) = sumB tk s k + tk (chAt s k) from rfl
  have HK := Lib.hid fun k => show sumB mk s (k + 1) = sumB mk s k + mk (chAt s k) from rfl
  obtain ⟨R, hR⟩ : ∃ R, R = rowF s := ⟨_, rfl⟩
  rw [← hR] at HY HN ⊢
  have HE := Lib.hid (show takesF s = sumB tk s s.size ∧ makesF s = sumB mk s s.size from ⟨rfl, rfl⟩)
  obtain ⟨n, hn⟩ : ∃ n, n = s.size := ⟨_, rfl⟩
  have hsz : s.size = n := hn.symm
  rw [hsz] at hs HI HY HN HE
  clear hR hn
  go_enter Tryd.func22, Tryd.ntmps22
  go_wp2
  go_loop [5, 6, 7] (fun t m i => ∃ k : Nat, k ≤ n ∧ i = .int .i64 k ∧ t = .int .i64 (sumB tk s k) ∧ m = .int .i64 (sumB mk s k) ∧ Hid (∀ j, j < k → isSt (chAt s j) = true)) (fun _ _ i => n - (intOf i).toNat)
  case atStart => exact ⟨0, Nat.zero_le _, rfl, rfl, rfl, fun j hj => absurd hj (Nat.not_lt_zero j)⟩
  case round =>
    obtain ⟨k, hk, rfl, rfl, rfl, hA⟩ := hrel
    have hb1 := HB.out k hA.out
    have hb2 := HM.out k
    by_cases hlt : k < n
    · have q := HI.out k hlt
      have hn1 := HN.out k hlt
      have ht := HT.out k
      have hm := HK.out k
      have hmb := mk_bd (chAt s k)
      have HA2 : Hid (isSt (chAt s k) = true → ∀ j, j < k + 1 → isSt (chAt s j) = true) := fun h j hj => by
        by_cases e : j = k
        · subst e; exact h
        · exact hA.out j (by omega)
      have C1 := Lib.hid fun wx => specTk_any (chAt s k) wx
      have C2 := Lib.hid fun wx => specMk_any (chAt s k) wx
      cases hst : isSt (chAt s k) with
      | false =>
        have e := tk_no hst
        rw [e] at C1
        have HR := Lib.hid (hn1 hst)
        clear hn1 ht hm hmb hst e hb1 hb2 C2
        generalize chAt s k = b at *
        generalize sumB tk s k = t at *
        generalize sumB mk s k = m at *
        go_wp2_with fail
        refine (C1.out _).mono ?_
        rintro e w2 ⟨rfl, rfl⟩
        go_wp2
        go_ret3
        rw [HR.out]
        exact ⟨rfl, rfl⟩
      | true =>
        have htb := tk_bd hst
        have HA3 := Lib.hid (HA2.out hst)
        clear hn1 hst HA2
        generalize chAt s k = b at *
        generalize tk b = x at *
        generalize mk b = y at *
        have HT2 := Lib.hid ht
        have HM2 := Lib.hid hm
        clear ht hm
        generalize sumB tk s k = t at *
        generalize sumB mk s k = m at *
        go_wp2_with fail
        refine (C1.out _).mono ?_
        rintro e w2 ⟨rfl, rfl⟩
        go_wp2_with fail
        refine (C2.out _).mono ?_
        rintro e w2 ⟨rfl, rfl⟩
        go_wp2
        go_round
        case rel => exact ⟨k + 1, by omega, by go_num, by rw [HT2.out], by rw [HM2.out], HA3⟩
        case measure => simp [intOf]; omega
    · have hkn : k = n := by omega
      subst hkn
      have HR := Lib.hid (HY.out hA.out)
      rw [HE.out.1, HE.out.2] at HR
      clear hb1 hb2
      generalize sumB tk s k = t at *
      generalize sumB mk s k = m at *
      go_wp2
      go_ret3
      rw [HR.out]
      exact ⟨rfl, rfl⟩

theorem specCast_any (n : Int) (w : World) :
    Calls Tryd.prog 16 #[.int .i64 n] w fun e w' => e = .returned (.bool (inB n 1 60)) ∧ w = w' := by
  have H := Lib.hid (in_any n 1 60 w)
  go_enter Tryd.func16, Tryd.ntmps16
  go_wp2_with fail
  refine H.out.mono ?_
  rintro e w' ⟨rfl, rfl⟩
  go_wp2
  go_ret
  exact ⟨rfl, rfl⟩

set_option maxHeartbeats 4000000 in
theorem specBad_any (c : Int) (v : Value) (L : List ByteArray) (w : World) (h : Strs w v L) (hn : L.length ≤ 1048576) (hs : ∀ j, j < L.length → (rowAt L j).size ≤ 1048576) :
    Calls Tryd.prog 17 #[.int .i64 c, v] w fun e w' => e = .returned (.int .i64 (badF c L)) ∧ w = w' := by
  by_cases h0 : L.length = 0
  · have hx : L = [] := List.length_eq_zero_iff.1 h0
    subst hx
    obtain ⟨a1, c1, rfl⟩ := h.nil
    have e : badF c [] = -1 := rfl
    rw [e]
    clear h hs e h0 hn
    go_enter Tryd.func17, Tryd.ntmps17
    go_wp2
    go_rounds 1
    go_ret
    exact ⟨rfl, rfl⟩
  · obtain ⟨b, off, cap, rfl, hc⟩ := h.pos (by omega)
    clear h
    have HC := Lib.hid fun j hj => show w.cell? ⟨b, off + j, none⟩ = some (.string (rowAt L j)) from hc j hj
    have HS := Lib.hid hs
    have HY := Lib.hid fun (h : ∀ j, j < L.length → fine c L j = true) => show badF c L = -1 from firstNo_all h
    have HN := Lib.hid fun k (hk : k < L.length) (ha : ∀ j, j < k → fine c L j = true) (hr : fine c L k = false) => show badF c L = k from firstNo_at hk ha hr
    have HF := Lib.hid fun k => show fine c L k = canB k (wd c L k) (rowAt L k) from rfl
    have HW := Lib.hid fun k => show wd c L (k + 1) = makesF (rowAt L k) from rfl
    have HR := Lib.hid fun s wx h => specRow_any s wx h
    obtain ⟨R, hR⟩ : ∃ R, R = badF c L := ⟨_, rfl⟩
    rw [← hR] at HY HN ⊢
    obtain ⟨n, hln⟩ : ∃ n, n = L.length := ⟨_, rfl⟩
    rw [← hln] at hn h0 HC HS HY HN ⊢
    clear hln hc hs hR
    go_enter Tryd.func17, Tryd.ntmps17
    go_wp2
    go_loop [5, 6] (fun x i => ∃ k : Nat, k ≤ n ∧ i = .int .i64 k ∧ x = .int .i64 (wd c L k) ∧ Hid (∀ j, j < k → fine c L j = true)) (fun _ i => n - (intOf i).toNat)
    case atStart => exact ⟨0, Nat.zero_le _, rfl, rfl, fun j hj => absurd hj (Nat.not_lt_zero j)⟩
    case round =>
      obtain ⟨k, hk, rfl, rfl, hA⟩ := hrel
      by_cases hlt : k < n
      · have c1 : w.cell? ⟨b, off + k, none⟩ = some (.string (rowAt L k)) := HC.out k hlt
        have C := Lib.hid fun wx => HR.out (rowAt L k) wx (HS.out k hlt)
        have hN := HN.out k hlt hA.out
        have hF := HF.out k
        have hW := HW.out k
        have HA2 : Hid (fine c L k = true → ∀ j, j < k + 1 → fine c L j = true) := fun h j hj => by
          by_cases e : j = k
          · subst e; exact h
          · exact hA.out j (by omega)
        generalize wd c L k = W at *
        generalize rowAt L k = s at *
        cases ha : allSt s with
        | false =>
          rw [rowF_no ha] at C
          have HX := Lib.hid (hN (hF.trans (canB_no (.inl ha))))
          clear hN hF hW HA2 ha
          go_wp2_with fail
          refine (C.out _).mono ?_
          rintro e w2 ⟨rfl, rfl⟩
          go_wp2
          go_ret
          exact ⟨ret_int HX.out.symm, rfl⟩
        | true =>
          rw [rowF_yes ha] at C
          have HX := Lib.hid fun h => hN (hF.trans (canB_no h))
          have HO := Lib.hid fun h => HA2.out (hF.trans (canB_mk ⟨ha, h⟩))
          have HW2 := Lib.hid hW
          clear hN hF hW HA2 ha
          generalize takesF s = T at *
          generalize makesF s = M at *
          by_cases h1 : W = 0
          · have HX2 := Lib.hid (HX.out (.inr (.inl h1)))
            subst h1
            go_wp2_with fail
            refine (C.out _).mono ?_
            rintro e w2 ⟨rfl, rfl⟩
            go_wp2
            go_ret
            exact ⟨ret_int HX2.out.symm, rfl⟩
          · have g1 : (W == 0) = false := by rw [beq_eq_false_iff_ne]; exact h1
            by_cases h2 : T = W
            · have g2 : (T != W) = false := by simp [h2]
              by_cases h3 : 60 < M
              · have HX2 := Lib.hid (HX.out (.inr (.inr (.inr (.inl h3)))))
                go_wp2_with fail
                refine (C.out _).mono ?_
                rintro e w2 ⟨rfl, rfl⟩
                go_wp2
                go_ret
                exact ⟨ret_int HX2.out.symm, rfl⟩
              · by_cases h4 : 30 ≤ k
                · have HX2 := Lib.hid (HX.out (.inr (.inr (.inr (.inr h4)))))
                  have h4' : (30 : Int) ≤ (k : Int) := by omega
                  go_wp2_with fail
                  refine (C.out _).mono ?_
                  rintro e w2 ⟨rfl, rfl⟩
                  go_wp2
                  go_ret
                  exact ⟨ret_int HX2.out.symm, rfl⟩
                · have HO2 := Lib.hid (HO.out ⟨h1, h2, by omega, by omega⟩)
                  have h4' : ¬ (30 : Int) ≤ (k : Int) := by omega
                  clear h1 h2
                  go_wp2_with fail
                  refine (C.out _).mono ?_
                  rintro e w2 ⟨rfl, rfl⟩
                  go_wp2
                  go_round
                  case rel => exact ⟨k + 1, by omega, by go_num, by rw [HW2.out], HO2⟩
                  case measure => simp [intOf]; omega
            · have g2 : (T != W) = true := by rw [bne_iff_ne]; exact h2
              have HX2 := Lib.hid (HX.out (.inr (.inr (.inl h2))))
              clear h2
              go_wp2_with fail
              refine (C.out _).mono ?_
              rintro e w2 ⟨rfl, rfl⟩
              go_wp2
              go_ret
              exact ⟨ret_int HX2.out.symm, rfl⟩
      · have hkn : k = n := by omega
        subst hkn
        have HX := Lib.hid (HY.out hA.out)
        generalize wd c L k = W at *
        go_wp2
        go_ret
        exact ⟨ret_int HX.out.symm, rfl⟩
end Go.Proofs.YtcgcaghmpegehaaDoor
