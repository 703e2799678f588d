/-
  No statement is proved here: the text of a web, in the program and in the document's own text; condition: the library's table of powers holds what its text lays.
-/
import Derived.Test.YtohhahhdlfaakaaDoorDecimal
import Derived.Test.YtohhahhdlfaakaaDoorWeb
import Derived.Test.YtohhahhdlfaakaaDoorShelf
import Derived.Lib.Join
namespace Go.Proofs.YtohhahhdlfaakaaDoor
open Go.ChangeShapes Go.WideShapes Go.ChangeAt Go.RowKit

/-- The digits of the k-th stripe, and the text of the first k. -/
def dig (zs : List Int) (k : Nat) : List UInt8 := Lib.decDigits (zs.getD k 0).toNat
def txtTo (zs : List Int) : Nat → List UInt8
  | 0 => []
  | k + 1 => if k = 0 then dig zs 0 else (txtTo zs k ++ [32]) ++ dig zs k
theorem txtTo_one (zs : List Int) : txtTo zs 1 = dig zs 0 := rfl
theorem txtTo_step (zs : List Int) (k : Nat) (hk : 0 < k) : txtTo zs (k + 1) = (txtTo zs k ++ [32]) ++ dig zs k := by
  rw [txtTo, if_neg (by omega)]
theorem dig_len {zs : List Int} (hok : okW zs = true) (k : Nat) : (dig zs k).length ≤ 20 := by
  refine dec_short _ ?_
  by_cases h : k < zs.length
  · have := okW_get hok k h
    omega
  · rw [List.getD, List.getElem?_eq_none (by omega)]
    simp
theorem txtTo_len {zs : List Int} (hok : okW zs = true) : ∀ k, (txtTo zs k).length ≤ 21 * k
  | 0 => Nat.le_refl _
  | k + 1 => by
    have h := dig_len hok k
    have h0 := dig_len hok 0
    have ih := txtTo_len hok k
    rw [txtTo]
    split
    · omega
    · simp
      omega
theorem txtTo_join (zs : List Int) (z : Int) (r : List Int) (h : zs = z :: r) : ∀ k, k ≤ r.length → txtTo zs (k + 1) = Lib.decDigits z.toNat ++ Lib.joinTail [32] ((r.map fun y => Lib.decDigits y.toNat).take k)
  | 0, _ => by
    rw [txtTo_one, dig, h]
    simp [Lib.joinTail]
  | k + 1, hk => by
    have ih := txtTo_join zs z r h k (by omega)
    have e : (r.map fun y => Lib.decDigits y.toNat)[k]? = some (dig zs (k + 1)) := by
      rw [List.getElem?_map, List.getElem?_eq_getElem (by omega), dig, h]
      simp [List.getD, List.getElem?_eq_getElem (show k < r.length by omega)]
    rw [txtTo_step zs (k + 1) (by omega), ih, Lib.joinTail_take_succ _ _ _ _ e]
    simp [List.append_assoc]
theorem txt_join {zs : List Int} (h : 0 < zs.length) : txtTo zs zs.length = Lib.join (zs.map fun y => Lib.decDigits y.toNat) [32] := by
  cases zs with
  | nil => simp at h
  | cons z r =>
    have e := txtTo_join (z :: r) z r rfl r.length (Nat.le_refl _)
    rw [List.take_of_length_le (by simp)] at e
    rw [List.map_cons, Lib.join_cons, ← e]
    rfl

set_option maxRecDepth 100000 in
set_option maxHeartbeats 2000000 in
theorem l02Text_any (v : Value) (zs : List Int) (w : World) (h : Ints w v zs) (hok : okW zs = true) :
    Calls Tryd.prog 14 #[v] w fun e w' => e = .returned (.string ⟨(txtTo zs zs.length).toArray⟩) ∧ Below w.heap.size w w' := by
  have hl := okW_len hok
  rcases h with ⟨a, cap, rfl, rfl⟩ | ⟨b1, o1, c1, rfl, h0, hbw, hc1⟩
  · simp at hl
  have HX := Lib.hid fun k hk => okW_get hok k hk
  have HL := Lib.hid (txtTo_len hok)
  have HD := Lib.hid (dig_len hok)
  have HC := Lib.hid hc1
  obtain ⟨n, hln⟩ : ∃ n, n = zs.length := ⟨_, rfl⟩
  rw [← hln] at HX HC hl ⊢
  clear hok hc1 hln h0
  go_enter Tryd.func14, Tryd.ntmps14
  go_wp2_with fail
  go_loopw [3, 4] (fun s i wr => ∃ k : Nat, k ≤ n ∧ i = .int .i64 k ∧ s = .string ⟨(txtTo zs k).toArray⟩ ∧ Hid (Below w.heap.size w wr)) (fun _ i _ => n - (intOf i).toNat)
  case atStart => exact ⟨0, Nat.zero_le _, rfl, rfl, Below.refl _ _⟩
  case round =>
    obtain ⟨k, hk, rfl, rfl, hE⟩ := hrel
    by_cases hlt : k < n
    · have hki : (k : Int) < (n : Int) := by omega
      have c1 : wr.cell? ⟨b1, o1 + k, none⟩ = some (.int .i64 (zs.getD k 0)) := (hE.out.cell (p := ⟨b1, o1 + k, none⟩) hbw).trans (HC.out k hlt)
      have hx := HX.out k hlt
      obtain ⟨q, hq⟩ := Int.eq_ofNat_of_zero_le hx.1
      have hdg : dig zs k = Lib.decDigits q := by rw [dig, hq]; rfl
      rw [hq] at c1 hx
      have hcall := Lib.hid (decimal_any q (by omega))
      by_cases h0 : k = 0
      · have hst : txtTo zs (k + 1) = txtTo zs k ++ Lib.decDigits q := by rw [← hdg, h0, txtTo_one]; rfl
        have hl1 := HL.out k
        have hl2 := HD.out k
        rw [hdg] at hl2
        have hadd : ∀ wx : World, (Op.stringOp .add ⟨(txtTo zs k).toArray⟩ ⟨(Lib.decDigits q).toArray⟩).run Tryd.prog wx = .ok (.string ⟨(txtTo zs (k + 1)).toArray⟩) wx := fun wx => by
          rw [hst]
          exact add_lists _ _ (by omega) (by omega) wx
        have h0' : (k : Int) ≤ 0 := by omega
        clear hq hdg hst hl1 hl2 h0 hx
        obtain ⟨X, hX⟩ : ∃ X, X = txtTo zs k := ⟨_, rfl⟩
        obtain ⟨Y, hY⟩ : ∃ Y, Y = Lib.decDigits q := ⟨_, rfl⟩
        obtain ⟨Z, hZ⟩ : ∃ Z, Z = txtTo zs (k + 1) := ⟨_, rfl⟩
        have HZ := Lib.hid hZ
        rw [← hX, ← hY, ← hZ] at hadd
        rw [← hX]
        rw [← hY] at hcall
        clear hX hY hZ
        go_wp2_with fail
        refine (hcall.out wr).mono ?_
        rintro e w2 ⟨rfl, hB⟩
        have E2 := Lib.hid (hE.out.trans (hB.mono hE.out.size))
        clear hB hE c1
        go_wp2_with fail
        go_roundw
        case rel => exact ⟨k + 1, by omega, by go_num, by rw [HZ.out], E2⟩
        case measure => simp [intOf]; omega
      · have hst : txtTo zs (k + 1) = (txtTo zs k ++ [32]) ++ Lib.decDigits q := by rw [← hdg, txtTo_step zs k (by omega)]
        have hl1 := HL.out k
        have hl2 := HD.out k
        rw [hdg] at hl2
        have hadd0 : ∀ wx : World, (Op.stringOp .add ⟨(txtTo zs k).toArray⟩ ⟨#[32]⟩).run Tryd.prog wx = .ok (.string ⟨(txtTo zs k ++ [32]).toArray⟩) wx := fun wx => add_lists _ [32] (by omega) (by simp) wx
        have hadd : ∀ wx : World, (Op.stringOp .add ⟨(txtTo zs k ++ [32]).toArray⟩ ⟨(Lib.decDigits q).toArray⟩).run Tryd.prog wx = .ok (.string ⟨(txtTo zs (k + 1)).toArray⟩) wx := fun wx => by
          rw [hst]
          exact add_lists _ _ (by simp; omega) (by omega) wx
        have h0' : (0 : Int) < (k : Int) := by omega
        have h0'' : 0 < k := by omega
        clear hq hdg hst hl1 hl2 h0 hx
        obtain ⟨X, hX⟩ : ∃ X, X = txtTo zs k := ⟨_, rfl⟩
        obtain ⟨X1, hX1⟩ : ∃ X1, X1 = txtTo zs k ++ [32] := ⟨_, rfl⟩
        obtain ⟨Y, hY⟩ : ∃ Y, Y = Lib.decDigits q := ⟨_, rfl⟩
        obtain ⟨Z, hZ⟩ : ∃ Z, Z = txtTo zs (k + 1) := ⟨_, rfl⟩
        have HZ := Lib.hid hZ
        rw [← hX1, ← hX] at hadd0
        rw [← hX1, ← hY, ← hZ] at hadd
        rw [← hX]
        rw [← hY] at hcall
        clear hX hX1 hY hZ
        go_wp2_with fail
        refine (hcall.out wr).mono ?_
        rintro e w2 ⟨rfl, hB⟩
        have E2 := Lib.hid (hE.out.trans (hB.mono hE.out.size))
        clear hB hE c1
        go_wp2_with fail
        go_roundw
        case rel => exact ⟨k + 1, by omega, by go_num, by rw [HZ.out], E2⟩
        case measure => simp [intOf]; omega
    · have hkn : k = n := by omega
      subst hkn
      go_wp2_with fail
      go_ret
      exact ⟨rfl, hE.out⟩

/-- What WebText answers. -/
def textF (zs : List Int) : List UInt8 := if okW zs = true then txtTo zs zs.length else []
set_option maxRecDepth 100000 in
set_option maxHeartbeats 2000000 in
theorem specText_any (v : Value) (zs : List Int) (w : World) (h : Ints w v zs) (hn : zs.length ≤ 1048576) :
    Calls Tryd.prog 5 #[v] w fun e w' => e = .returned (.string ⟨(textF zs).toArray⟩) ∧ Below w.heap.size w w' := by
  have hin := l02Ok_any v zs w h hn
  unfold textF
  cases hok : okW zs with
  | false =>
    rw [hok] at hin
    have HI := Lib.hid hin
    clear hin hok h
    go_enter Tryd.func5, Tryd.ntmps5
    go_wp2_with fail
    refine HI.out.mono ?_
    rintro e w' ⟨rfl, rfl⟩
    go_wp2_with fail
    go_ret
    exact ⟨rfl, Below.refl _ _⟩
  | true =>
    rw [hok] at hin
    have HI := Lib.hid hin
    have HT := Lib.hid (l02Text_any v zs w h hok)
    rw [if_pos rfl]
    obtain ⟨X, hX⟩ : ∃ X, X = txtTo zs zs.length := ⟨_, rfl⟩
    rw [← hX] at HT ⊢
    clear hin hok h hX
    go_enter Tryd.func5, Tryd.ntmps5
    go_wp2_with fail
    refine HI.out.mono ?_
    rintro e w' ⟨rfl, rfl⟩
    go_wp2_with fail
    refine HT.out.mono ?_
    rintro e w' ⟨rfl, hB⟩
    go_wp2_with fail
    go_ret
    exact ⟨rfl, hB⟩
end Go.Proofs.YtohhahhdlfaakaaDoor
