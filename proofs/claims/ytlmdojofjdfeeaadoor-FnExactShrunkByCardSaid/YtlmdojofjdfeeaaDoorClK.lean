/-
  No statement is proved here: by how much a cloth has shrunk, in the document's own text and in the program; condition: the program's errors lie where its text lays them.
-/
import Derived.Test.YtlmdojofjdfeeaaDoorClI
namespace Go.Proofs.YtlmdojofjdfeeaaDoor
open Go.ChangeShapes Go.WideShapes Go.ChangeAt Go.RowKit

/-- What ShrunkBy answers. -/
def shrF (x y d f h x' y' d' f' h' : Int) : Int × Int × Int :=
  if okC x y d f h = true ∧ okC x' y' d' f' h' = true then (if x' ≤ x ∧ y' ≤ y ∧ f ≤ f' then (x - x', y - y', 0) else (0, 0, 4)) else (0, 0, 1)
theorem shrF_bad {x y d f h x' y' d' f' h' : Int} (e : ¬ (okC x y d f h = true ∧ okC x' y' d' f' h' = true)) : shrF x y d f h x' y' d' f' h' = (0, 0, 1) := if_neg e
theorem shrF_state {x y d f h x' y' d' f' h' : Int} (e : okC x y d f h = true ∧ okC x' y' d' f' h' = true) (k : ¬ (x' ≤ x ∧ y' ≤ y ∧ f ≤ f')) : shrF x y d f h x' y' d' f' h' = (0, 0, 4) := by
  unfold shrF; rw [if_pos e, if_neg k]
theorem shrF_yes {x y d f h x' y' d' f' h' : Int} (e : okC x y d f h = true ∧ okC x' y' d' f' h' = true) (k : x' ≤ x ∧ y' ≤ y ∧ f ≤ f') : shrF x y d f h x' y' d' f' h' = (x - x', y - y', 0) := by
  unfold shrF; rw [if_pos e, if_pos k]
/-- Two cloths in their boxes. -/
def CC (w w' : World) (x y d f h x' y' d' f' h' : Int) : Prop := CBox w' w.heap.size x y d f h ∧ CBox w' (w.heap.size + 1) x' y' d' f' h' ∧ Below w.heap.size w w'
theorem CC.next {w w1 w2 : World} {x y d f h x' y' d' f' h' : Int} (H : CC w w1 x y d f h x' y' d' f' h') (hB : Below w1.heap.size w1 w2) : CC w w2 x y d f h x' y' d' f' h' :=
  ⟨H.1.below hB, H.2.1.below hB, H.2.2.trans (hB.mono H.2.2.size)⟩
theorem CC.made (w : World) (T : TypeId) (x y d f h x' y' d' f' h' : Int) : CC w ((w.alloc (.cells #[.int .i16 x, .int .i16 y, .int .i8 d, .int .i8 f, .int .i8 h] T)).alloc (.cells #[.int .i16 x', .int .i16 y', .int .i8 d', .int .i8 f', .int .i8 h'] T)) x y d f h x' y' d' f' h' :=
  ⟨⟨by simp [go_sem], by simp [go_sem], by simp [go_sem], by simp [go_sem], by simp [go_sem]⟩, ⟨by simp [go_sem], by simp [go_sem], by simp [go_sem], by simp [go_sem], by simp [go_sem]⟩, by go_grown⟩
theorem ret_three {a b c a' b' c' : Int} (h : a = a') (k : b = b') (l : c = c') : Ending.returned (.tuple #[.int .i64 a, .int .i64 b, .int .i64 c]) = .returned (.tuple #[.int .i64 a', .int .i64 b', .int .i64 c']) := by rw [h, k, l]

set_option maxRecDepth 100000 in
set_option maxHeartbeats 4000000 in
theorem specShrunk_any (x y d f h x' y' d' f' h' : Int) (w : World) (hx : IsS x) (hy : IsS y) (hd : Is8 d) (hf : Is8 f) (hh : Is8 h) (hx' : IsS x') (hy' : IsS y') (hd' : Is8 d') (hf' : Is8 f') (hh' : Is8 h') :
    Calls Tryd.prog 21 #[.agg #[.int .i16 x, .int .i16 y, .int .i8 d, .int .i8 f, .int .i8 h], .agg #[.int .i16 x', .int .i16 y', .int .i8 d', .int .i8 f', .int .i8 h']] w fun e w' => e = .returned (.tuple #[.int .i64 (shrF x y d f h x' y' d' f' h').1, .int .i64 (shrF x y d f h x' y' d' f' h').2.1, .int .i64 (shrF x y d f h x' y' d' f' h').2.2]) ∧ Below w.heap.size w w' := by
  have K0 := Lib.hid (CC.made w 27 x y d f h x' y' d' f' h')
  have H1 := Lib.hid (l06Ok_any w.heap.size x y d f h _ hd hf hh hx hy K0.out.1)
  have H2 := Lib.hid (l06Ok_any (w.heap.size + 1) x' y' d' f' h' _ hd' hf' hh' hx' hy' K0.out.2.1)
  have E1 := Lib.hid fun (e : okC x y d f h = true) => okC_of e
  have E2 := Lib.hid fun (e : okC x' y' d' f' h' = true) => okC_of e
  have G := Lib.hid (show ∀ a b, okC x y d f h = a → okC x' y' d' f' h' = b → (a = false ∨ b = false → shrF x y d f h x' y' d' f' h' = (0, 0, 1)) ∧ (a = true → b = true → ¬ (x' ≤ x ∧ y' ≤ y ∧ f ≤ f') → shrF x y d f h x' y' d' f' h' = (0, 0, 4)) ∧ (a = true → b = true → x' ≤ x ∧ y' ≤ y ∧ f ≤ f' → shrF x y d f h x' y' d' f' h' = (x - x', y - y', 0)) from fun a b ha hb => ⟨fun h => shrF_bad (by rw [ha, hb]; rintro ⟨r, s⟩; rcases h with h | h <;> simp [h] at r s), fun h k => shrF_state ⟨ha.trans h, hb.trans k⟩, fun h k => shrF_yes ⟨ha.trans h, hb.trans k⟩⟩)
  have G2 := Lib.hid (G.out _ _ rfl rfl)
  clear G
  generalize okC x y d f h = a at *
  generalize okC x' y' d' f' h' = b at *
  generalize shrF x y d f h x' y' d' f' h' = R at *
  clear hx hy hd hf hh hx' hy' hd' hf' hh'
  cases a with
  | false =>
    rw [G2.out.1 (.inl rfl)]
    clear G2 E1 E2
    obtain ⟨⟨a0, a1, a2, a3, a4⟩, ⟨b0, b1, b2, b3, b4⟩, _⟩ := K0.out
    go_enter Tryd.func21, Tryd.ntmps21
    go_wp2_with fail
    refine H1.out.mono ?_
    rintro e w' ⟨rfl, rfl⟩
    go_wp2
    go_ret3
    exact ⟨rfl, K0.out.2.2⟩
  | true =>
    cases b with
    | false =>
      rw [G2.out.1 (.inr rfl)]
      clear G2 E1 E2
      obtain ⟨⟨a0, a1, a2, a3, a4⟩, ⟨b0, b1, b2, b3, b4⟩, _⟩ := K0.out
      go_enter Tryd.func21, Tryd.ntmps21
      go_wp2_with fail
      refine H1.out.mono ?_
      rintro e w' ⟨rfl, rfl⟩
      go_wp2_with fail
      refine H2.out.mono ?_
      rintro e w' ⟨rfl, rfl⟩
      go_wp2
      go_ret3
      exact ⟨rfl, K0.out.2.2⟩
    | true =>
      obtain ⟨⟨x1, x2⟩, ⟨y1, y2⟩, _, ⟨f1, f2⟩, _⟩ := E1.out rfl
      obtain ⟨⟨x3, x4⟩, ⟨y3, y4⟩, _, ⟨f3, f4⟩, _⟩ := E2.out rfl
      clear E1 E2
      by_cases k1 : x' ≤ x
      · by_cases k2 : y' ≤ y
        · by_cases k3 : f ≤ f'
          · rw [G2.out.2.2 rfl rfl ⟨k1, k2, k3⟩]
            clear G2
            obtain ⟨⟨a0, a1, a2, a3, a4⟩, ⟨b0, b1, b2, b3, b4⟩, _⟩ := K0.out
            go_enter Tryd.func21, Tryd.ntmps21
            go_wp2_with fail
            refine H1.out.mono ?_
            rintro e w' ⟨rfl, rfl⟩
            go_wp2_with fail
            refine H2.out.mono ?_
            rintro e w' ⟨rfl, rfl⟩
            go_wp2_with fail
            go_quiet (fail)
            go_wp2
            go_ret3
            exact ⟨ret_three (by omega) (by omega) rfl, (K0.out.2.2).trans ((bdN _ _).mono (K0.out.2.2).size)⟩
          · rw [G2.out.2.1 rfl rfl (by omega)]
            clear G2
            have k3' : f' < f := by omega
            obtain ⟨⟨a0, a1, a2, a3, a4⟩, ⟨b0, b1, b2, b3, b4⟩, _⟩ := K0.out
            go_enter Tryd.func21, Tryd.ntmps21
            go_wp2_with fail
            refine H1.out.mono ?_
            rintro e w' ⟨rfl, rfl⟩
            go_wp2_with fail
            refine H2.out.mono ?_
            rintro e w' ⟨rfl, rfl⟩
            go_wp2
            go_ret3
            exact ⟨rfl, K0.out.2.2⟩
        · rw [G2.out.2.1 rfl rfl (by omega)]
          clear G2
          have k2' : y < y' := by omega
          obtain ⟨⟨a0, a1, a2, a3, a4⟩, ⟨b0, b1, b2, b3, b4⟩, _⟩ := K0.out
          go_enter Tryd.func21, Tryd.ntmps21
          go_wp2_with fail
          refine H1.out.mono ?_
          rintro e w' ⟨rfl, rfl⟩
          go_wp2_with fail
          refine H2.out.mono ?_
          rintro e w' ⟨rfl, rfl⟩
          go_wp2
          go_ret3
          exact ⟨rfl, K0.out.2.2⟩
      · rw [G2.out.2.1 rfl rfl (by omega)]
        clear G2
        have k1' : x < x' := by omega
        obtain ⟨⟨a0, a1, a2, a3, a4⟩, ⟨b0, b1, b2, b3, b4⟩, _⟩ := K0.out
        go_enter Tryd.func21, Tryd.ntmps21
        go_wp2_with fail
        refine H1.out.mono ?_
        rintro e w' ⟨rfl, rfl⟩
        go_wp2_with fail
        refine H2.out.mono ?_
        rintro e w' ⟨rfl, rfl⟩
        go_wp2
        go_ret3
        exact ⟨rfl, K0.out.2.2⟩

set_option maxRecDepth 100000 in
set_option maxHeartbeats 4000000 in
theorem implShrunk_any (p : Nat → Addr) (x y d f h x' y' d' f' h' : Int) (w : World) (hs : Sent3 w p) (hx : IsS x) (hy : IsS y) (hd : Is8 d) (hf : Is8 f) (hh : Is8 h) (hx' : IsS x') (hy' : IsS y') (hd' : Is8 d') (hf' : Is8 f') (hh' : Is8 h') :
    Calls Tryd.prog 22 #[.agg #[.int .i16 x, .int .i16 y, .int .i8 d, .int .i8 f, .int .i8 h], .agg #[.int .i16 x', .int .i16 y', .int .i8 d', .int .i8 f', .int .i8 h']] w fun e w' => e = .returned (.tuple #[.int .i64 (shrF x y d f h x' y' d' f' h').1, .int .i64 (shrF x y d f h x' y' d' f' h').2.1, .int .i64 (shrF x y d f h x' y' d' f' h').2.2]) ∧ Below w.heap.size w w' := by
  have K0 := Lib.hid (CC.made w 27 x y d f h x' y' d' f' h')
  have HS := Lib.hid hs
  have H1 := Lib.hid fun wx hs => validCloth_any p x y d f h wx hs hx hy hd hf hh
  have H2 := Lib.hid fun wx hs => validCloth_any p x' y' d' f' h' wx hs hx' hy' hd' hf' hh'
  have E1 := Lib.hid fun (e : okC x y d f h = true) => okC_of e
  have E2 := Lib.hid fun (e : okC x' y' d' f' h' = true) => okC_of e
  have G := Lib.hid (show ∀ a b, okC x y d f h = a → okC x' y' d' f' h' = b → (a = false ∨ b = false → shrF x y d f h x' y' d' f' h' = (0, 0, 1)) ∧ (a = true → b = true → ¬ (x' ≤ x ∧ y' ≤ y ∧ f ≤ f') → shrF x y d f h x' y' d' f' h' = (0, 0, 4)) ∧ (a = true → b = true → x' ≤ x ∧ y' ≤ y ∧ f ≤ f' → shrF x y d f h x' y' d' f' h' = (x - x', y - y', 0)) from fun a b ha hb => ⟨fun h => shrF_bad (by rw [ha, hb]; rintro ⟨r, s⟩; rcases h with h | h <;> simp [h] at r s), fun h k => shrF_state ⟨ha.trans h, hb.trans k⟩, fun h k => shrF_yes ⟨ha.trans h, hb.trans k⟩⟩)
  have G2 := Lib.hid (G.out _ _ rfl rfl)
  clear G
  generalize okC x y d f h = a at *
  generalize okC x' y' d' f' h' = b at *
  generalize shrF x y d f h x' y' d' f' h' = R at *
  clear hx hy hd hf hh hx' hy' hd' hf' hh' hs
  cases a with
  | false =>
    rw [G2.out.1 (.inl rfl)]
    clear G2 E1 E2
    go_enter Tryd.func22, Tryd.ntmps22
    go_wp2_with fail
    refine (H1.out _ (HS.out.below K0.out.2.2)).mono ?_
    rintro e w1 ⟨rfl, hB⟩
    have K1 := Lib.hid (K0.out.next hB)
    clear hB
    obtain ⟨⟨a0, a1, a2, a3, a4⟩, ⟨b0, b1, b2, b3, b4⟩, _⟩ := K1.out
    go_wp2
    go_ret3
    exact ⟨rfl, K1.out.2.2⟩
  | true =>
    cases b with
    | false =>
      rw [G2.out.1 (.inr rfl)]
      clear G2 E1 E2
      go_enter Tryd.func22, Tryd.ntmps22
      go_wp2_with fail
      refine (H1.out _ (HS.out.below K0.out.2.2)).mono ?_
      rintro e w1 ⟨rfl, hB⟩
      have K1 := Lib.hid (K0.out.next hB)
      clear hB
      obtain ⟨⟨a0, a1, a2, a3, a4⟩, ⟨b0, b1, b2, b3, b4⟩, _⟩ := K1.out
      go_wp2_with fail
      refine (H2.out _ (HS.out.below K1.out.2.2)).mono ?_
      rintro e w2 ⟨rfl, hB⟩
      have K2 := Lib.hid (K1.out.next hB)
      clear hB a0 b0 a1 b1 a2 b2 a3 b3 a4 b4
      obtain ⟨⟨a0, a1, a2, a3, a4⟩, ⟨b0, b1, b2, b3, b4⟩, _⟩ := K2.out
      go_wp2
      go_ret3
      exact ⟨rfl, K2.out.2.2⟩
    | true =>
      obtain ⟨⟨x1, x2⟩, ⟨y1, y2⟩, _, ⟨f1, f2⟩, _⟩ := E1.out rfl
      obtain ⟨⟨x3, x4⟩, ⟨y3, y4⟩, _, ⟨f3, f4⟩, _⟩ := E2.out rfl
      clear E1 E2
      by_cases k1 : x' ≤ x
      · by_cases k2 : y' ≤ y
        · by_cases k3 : f ≤ f'
          · rw [G2.out.2.2 rfl rfl ⟨k1, k2, k3⟩]
            clear G2
            go_enter Tryd.func22, Tryd.ntmps22
            go_wp2_with fail
            refine (H1.out _ (HS.out.below K0.out.2.2)).mono ?_
            rintro e w1 ⟨rfl, hB⟩
            have K1 := Lib.hid (K0.out.next hB)
            clear hB
            obtain ⟨⟨a0, a1, a2, a3, a4⟩, ⟨b0, b1, b2, b3, b4⟩, _⟩ := K1.out
            go_wp2_with fail
            refine (H2.out _ (HS.out.below K1.out.2.2)).mono ?_
            rintro e w2 ⟨rfl, hB⟩
            have K2 := Lib.hid (K1.out.next hB)
            clear hB a0 b0 a1 b1 a2 b2 a3 b3 a4 b4
            obtain ⟨⟨a0, a1, a2, a3, a4⟩, ⟨b0, b1, b2, b3, b4⟩, _⟩ := K2.out
            go_wp2_with fail
            go_quiet (fail)
            go_wp2
            go_ret3
            exact ⟨ret_three (by omega) (by omega) rfl, (K2.out.2.2).trans ((bdN _ _).mono (K2.out.2.2).size)⟩
          · rw [G2.out.2.1 rfl rfl (by omega)]
            clear G2
            have k3' : f' < f := by omega
            go_enter Tryd.func22, Tryd.ntmps22
            go_wp2_with fail
            refine (H1.out _ (HS.out.below K0.out.2.2)).mono ?_
            rintro e w1 ⟨rfl, hB⟩
            have K1 := Lib.hid (K0.out.next hB)
            clear hB
            obtain ⟨⟨a0, a1, a2, a3, a4⟩, ⟨b0, b1, b2, b3, b4⟩, _⟩ := K1.out
            go_wp2_with fail
            refine (H2.out _ (HS.out.below K1.out.2.2)).mono ?_
            rintro e w2 ⟨rfl, hB⟩
            have K2 := Lib.hid (K1.out.next hB)
            clear hB a0 b0 a1 b1 a2 b2 a3 b3 a4 b4
            obtain ⟨⟨a0, a1, a2, a3, a4⟩, ⟨b0, b1, b2, b3, b4⟩, _⟩ := K2.out
            go_wp2
            go_ret3
            exact ⟨rfl, K2.out.2.2⟩
        · rw [G2.out.2.1 rfl rfl (by omega)]
          clear G2
          have k2' : y < y' := by omega
          go_enter Tryd.func22, Tryd.ntmps22
          go_wp2_with fail
          refine (H1.out _ (HS.out.below K0.out.2.2)).mono ?_
          rintro e w1 ⟨rfl, hB⟩
          have K1 := Lib.hid (K0.out.next hB)
          clear hB
          obtain ⟨⟨a0, a1, a2, a3, a4⟩, ⟨b0, b1, b2, b3, b4⟩, _⟩ := K1.out
          go_wp2_with fail
          refine (H2.out _ (HS.out.below K1.out.2.2)).mono ?_
          rintro e w2 ⟨rfl, hB⟩
          have K2 := Lib.hid (K1.out.next hB)
          clear hB a0 b0 a1 b1 a2 b2 a3 b3 a4 b4
          obtain ⟨⟨a0, a1, a2, a3, a4⟩, ⟨b0, b1, b2, b3, b4⟩, _⟩ := K2.out
          go_wp2
          go_ret3
          exact ⟨rfl, K2.out.2.2⟩
      · rw [G2.out.2.1 rfl rfl (by omega)]
        clear G2
        have k1' : x < x' := by omega
        go_enter Tryd.func22, Tryd.ntmps22
        go_wp2_with fail
        refine (H1.out _ (HS.out.below K0.out.2.2)).mono ?_
        rintro e w1 ⟨rfl, hB⟩
        have K1 := Lib.hid (K0.out.next hB)
        clear hB
        obtain ⟨⟨a0, a1, a2, a3, a4⟩, ⟨b0, b1, b2, b3, b4⟩, _⟩ := K1.out
        go_wp2_with fail
        refine (H2.out _ (HS.out.below K1.out.2.2)).mono ?_
        rintro e w2 ⟨rfl, hB⟩
        have K2 := Lib.hid (K1.out.next hB)
        clear hB a0 b0 a1 b1 a2 b2 a3 b3 a4 b4
        obtain ⟨⟨a0, a1, a2, a3, a4⟩, ⟨b0, b1, b2, b3, b4⟩, _⟩ := K2.out
        go_wp2
        go_ret3
        exact ⟨rfl, K2.out.2.2⟩

end Go.Proofs.YtlmdojofjdfeeaaDoor
