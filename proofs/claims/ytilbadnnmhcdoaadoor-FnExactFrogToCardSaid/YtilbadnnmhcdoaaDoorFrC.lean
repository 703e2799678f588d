/-
  No statement is proved here: FrogTo in the program; condition: its errors lie where its text lays them; at most 1048576 rows of at most 1048576 bytes.
-/
import Derived.Test.YtilbadnnmhcdoaaDoorFrM
import Derived.Test.YtilbadnnmhcdoaaDoorFbO
import Derived.Test.YtilbadnnmhcdoaaDoorKnitP
import Derived.Test.YtilbadnnmhcdoaaDoorYarnI0
namespace Go.Proofs.YtilbadnnmhcdoaaDoor
open Go.ChangeShapes Go.WideShapes Go.ChangeAt Go.RowKit

theorem strs_take {w : World} {a : Option Addr} {n c R : Nat} {L : List ByteArray} (h : Strs w (.slice a n c) L) (hn : n = L.length) (hR : R ≤ n) : Strs w (.slice a R c) (L.take R) := by
  by_cases h0 : R = 0
  · subst h0
    exact .inl ⟨a, c, rfl, rfl⟩
  · rcases h with ⟨_, _, _, rfl⟩ | ⟨b, off, cap, e, h1, hb, hc⟩
    · simp at hn; omega
    · simp only [Value.slice.injEq] at e
      obtain ⟨rfl, _, rfl⟩ := e
      have hl : (L.take R).length = R := by rw [List.length_take]; omega
      refine .inr ⟨b, off, c, by rw [hl], by omega, hb, fun j hj => ?_⟩
      rw [hc j (by omega)]
      simp [List.getD, List.getElem?_take]
      rw [if_pos (by omega)]
theorem strs_drop {w : World} {b off n c c' R : Nat} {L : List ByteArray} (h : Strs w (.slice (some ⟨b, off, none⟩) n c) L) (hn : n = L.length) (hR : R ≤ n) : Strs w (.slice (some ⟨b, off + R, none⟩) (n - R) c') (L.drop R) := by
  by_cases h0 : n - R = 0
  · rw [h0, List.drop_eq_nil_of_le (by omega)]
    exact .inl ⟨_, c', rfl, rfl⟩
  · rcases h with ⟨_, _, _, rfl⟩ | ⟨b', off', cap, e, h1, hb, hc⟩
    · simp at hn; omega
    · simp only [Value.slice.injEq, Option.some.injEq, Addr.mk.injEq] at e
      obtain ⟨⟨rfl, rfl, _⟩, _, rfl⟩ := e
      have hl : (L.drop R).length = n - R := by rw [List.length_drop]; omega
      refine .inr ⟨b, off + R, c', by rw [hl], by omega, hb, fun j hj => ?_⟩
      rw [Nat.add_assoc, hc (R + j) (by omega)]
      simp [List.getD]

set_option maxRecDepth 100000 in
set_option maxHeartbeats 2000000 in
theorem cloneStr_any (a : Option Addr) (k cap : Nat) (M : List ByteArray) (w : World) (h : Strs w (.slice a k cap) M) (hk : k = M.length) (hn : k ≤ 1048576) :
    Calls Tryd.prog 50 #[.slice a k cap] w fun e w' => ∃ va vn vc, e = .returned (.slice va vn vc) ∧ OwnT w' w.heap.size (.slice va vn vc) M ∧ Below w.heap.size w w' := by
  obtain ⟨i0, hi, hz0, hz1, hz2⟩ := info_parts infoStr
  cases a with
  | none =>
    have hx : M = [] := by
      rcases h with ⟨a', c', _, rfl⟩ | ⟨b, off, c', e, _⟩
      · rfl
      · simp at e
    subst hx
    obtain rfl : k = 0 := hk
    clear h
    have hnil : ∀ wx : World, (Go.binOp BinOp.eql 23 (Value.slice none 0 cap) (Value.slice none 0 0)).run Tryd.prog wx = .ok (.bool true) wx := fun wx => by
      first | kernel_rfl | rfl | (simp [go_sem, Tryd.underlying23])
    go_enter Tryd.func50, Tryd.ntmps50
    go_wp2_with fail
    go_returns
    exact ⟨_, _, _, rfl, World.ownsRow_nil _ _ _ _, Below.refl _ _⟩
  | some ad =>
    have N1 : Hid (∀ j u, (M.map Value.string)[j]? = some u → (w.alloc (.cells #[] 9)).cell? (ad.add j) = some u) := Lib.hid (by
      rcases h with ⟨a', c', e, rfl⟩ | ⟨b', off, c', e, h0, hb', hc⟩
      · intro j u hu
        simp at hu
      · simp only [Value.slice.injEq, Option.some.injEq] at e
        obtain ⟨rfl, _, _⟩ := e
        intro j u hu
        have hj := txt_news hc M.length j u (by rw [List.take_length]; exact hu)
        exact kept ((Below.refl _ _).alloc (Nat.le_refl _) _) hb' (by rw [add_plain] at hj; exact hj) |> fun x => by rw [add_plain]; exact x)
    have O1 := Lib.hid (World.ownsRow_made (base := w.heap.size) (e := 9) (size := 1) w #[] 0 (Nat.le_refl _) (by decide) rfl)
    have HM := Lib.hid (show (M.map Value.string).length = k * 1 by rw [List.length_map, hk, Nat.mul_one])
    have H1 := Lib.hid (txt_one M)
    have HK := Lib.hid hk
    have hnil : ∀ wx : World, (Go.binOp BinOp.eql 23 (Value.slice (some ad) k cap) (Value.slice none 0 0)).run Tryd.prog wx = .ok (.bool false) wx := fun wx => by
      first | kernel_rfl | rfl | (simp [go_sem, Tryd.underlying23])
    clear h hk
    go_enter Tryd.func50, Tryd.ntmps50
    go_wp2_with (first
      | (at_builtin; refine wpList_append_own _ rfl _ _ 23 rfl w.heap.size 9 i0 (.string ByteArray.empty) 1 16 Tryd.underlying23 hi hz0 hz1 hz2 rfl (by decide) (.slice (some ⟨w.heap.size, 0, none⟩) 0 0) 0 [] rfl O1.out ad k cap (M.map Value.string) rfl HM.out N1.out H1.out (by unfold maxLen; omega) (by omega) (by simp) ?_; intro v2 w2 hown2 hgrow2 _)
      | go_in)
    obtain ⟨va, vn, vc, rfl⟩ := own_slice hown2
    have HO2 := Lib.hid hown2
    have HG2 := Lib.hid hgrow2
    clear hown2 hgrow2
    go_returns
    refine ⟨_, _, _, rfl, ?_, (Below.refl _ _).grown (grown_alO HG2.out) (Nat.le_refl _) (fun k hk => ?_)⟩
    · unfold OwnT
      rw [← HK.out]
      simpa using HO2.out
    · exact Nat.le_of_eq (Option.some.inj hk)
end Go.Proofs.YtilbadnnmhcdoaaDoor
