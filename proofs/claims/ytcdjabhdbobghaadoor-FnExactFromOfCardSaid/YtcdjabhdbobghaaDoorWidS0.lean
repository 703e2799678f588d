/-
  No statement is proved here: how many loops there are in each row, in the document's own text; condition: rows of at most 1048576 bytes.
-/
import Derived.Test.YtcdjabhdbobghaaDoorKnitK
namespace Go.Proofs.YtcdjabhdbobghaaDoor
open Go.ChangeShapes Go.WideShapes Go.ChangeAt Go.RowKit

theorem int_one1 (a : Int) : ∀ u ∈ [Value.int .i64 a], u.oneCell' = true := by intro u hu; simp at hu; subst hu; rfl

set_option maxRecDepth 100000 in
set_option maxHeartbeats 8000000 in
theorem specWid_any (b : Nat) (c : Int) (v : Value) (L : List ByteArray) (w : World) (c0 : w.cell? ⟨b, 0, none⟩ = some (.int .i16 c)) (c1 : w.cell? ⟨b, 1, none⟩ = some v) (hlb : b < w.heap.size) (hok : okF c L = true) (h : Strs w v L) :
    Calls Tryd.prog 53 #[.pointer (some ⟨b, 0, none⟩)] w fun e w' => ∃ u, e = .returned u ∧ Own w' w.heap.size u (wdsTo c L (L.length + 1)) ∧ Below w.heap.size w w' := by
  obtain ⟨i0, hi, hz0, hz1, hz2⟩ := info_parts info64
  obtain ⟨hcb, hfine⟩ := okF_parts hok
  have hlen := fine_len hfine
  have HS2 := Lib.hid fun k (hk : k < L.length) => row_size hcb (k := k) fun j hj => hfine j (by omega)
  have HRW := Lib.hid fun k (hk : k < L.length) wx => specRow_any (rowAt L k) wx (by have := HS2.out k hk; omega)
  have HRY := Lib.hid fun k (hk : k < L.length) => rowF_yes (canB_parts (hfine k hk)).1
  have HE := Lib.hid fun k => show makesF (rowAt L k) = wd c L (k + 1) from rfl
  have HWS := Lib.hid fun k => wdsTo_succ c L k
  have HSrc : Hid (∃ a1 cp, v = .slice a1 L.length cp ∧ ∀ k, k < L.length → ∃ b off, a1 = some ⟨b, off, none⟩ ∧ b < w.heap.size ∧ w.cell? ⟨b, off + k, none⟩ = some (.string (rowAt L k))) := by
    rcases h with ⟨a1, cp, rfl, rfl⟩ | ⟨b, off, cap, rfl, h0, hb, hc⟩
    · exact ⟨a1, cp, rfl, fun k hk => absurd hk (Nat.not_lt_zero k)⟩
    · exact ⟨_, cap, rfl, fun k hk => ⟨b, off, rfl, hb, hc k hk⟩⟩
  obtain ⟨a1, cp, rfl, hsrc⟩ := HSrc.out
  have HSR := Lib.hid hsrc
  obtain ⟨n, hln⟩ : ∃ n, n = L.length := ⟨_, rfl⟩
  rw [← hln] at HSR hlen c1 HRW HRY ⊢
  obtain ⟨hc1, hc2⟩ := hcb
  have C0 := Lib.hid c0
  have C1 := Lib.hid c1
  obtain ⟨B, hBe⟩ : ∃ B, B = w.heap.size := ⟨_, rfl⟩
  have HB := Lib.hid hBe
  rw [← hBe] at HSR hlb ⊢
  have O0 : Hid (Own (w.alloc (.cells #[.int .i64 c] 2)) B (.slice (some ⟨w.heap.size, 0, none⟩) 1 1) (wdsTo c L 1)) := World.ownsRow_lit w #[.int .i64 c] 1 (by omega) (by decide) rfl
  have B0 : Hid (Below B w (w.alloc (.cells #[.int .i64 c] 2))) := (Below.refl _ _).alloc (by omega) _
  clear hok hfine HSrc hsrc hln h hBe HS2
  go_enter Tryd.func53, Tryd.ntmps53
  go_wp2_with fail
  clear c0 c1
  generalize w.alloc (.cells #[.int .i64 c] 2) = w1 at *
  go_loopw [3, 4] (fun u i wr => ∃ (k : Nat) (x : Value), k ≤ n ∧ i = .int .i64 k ∧ x = u ∧ Hid (Own wr B x (wdsTo c L (k + 1))) ∧ Hid (Below B w wr)) (fun _ i _ => n - (intOf i).toNat)
  case atStart => exact ⟨0, _, Nat.zero_le _, rfl, rfl, O0, B0⟩
  case round =>
    clear O0 B0
    obtain ⟨k, x, hk, rfl, rfl, hO, hBl⟩ := hrel
    obtain ⟨wa, wc, rfl⟩ : ∃ wa wc, x = .slice wa (k + 1 : Nat) wc := by
      obtain ⟨wa, wc, e⟩ := hO.out.ints.len
      rw [wdsTo_length] at e
      exact ⟨wa, wc, e⟩
    have c0 := kept hBl.out hlb C0.out
    have c1 := kept hBl.out hlb C1.out
    by_cases hlt : k < n
    · obtain ⟨bb, off, rfl, hbw, hcell⟩ := HSR.out k hlt
      have c2 : wr.cell? ⟨bb, off + k, none⟩ = some (.string (rowAt L k)) := kept hBl.out hbw hcell
      have HR1 := Lib.hid fun wx => HRW.out k hlt wx
      rw [HRY.out k hlt, HE.out k] at HR1
      have HW2 := Lib.hid (HWS.out (k + 1))
      have R1 : Hid (wr.ownsRow B 2 1 (.slice wa (k + 1 : Nat) wc) (k + 1) ((wdsTo c L (k + 1)).map (Value.int .i64))) := by
        have h := hO.out.row
        rw [wdsTo_length] at h
        exact h
      have HZ : Hid (B ≤ wr.heap.size) := Lib.hid (by rw [HB.out]; exact hBl.out.size)
      clear hcell
      generalize rowAt L k = s at *
      generalize wd c L (k + 1) = y at *
      generalize takesF s = t at *
      go_wp2_with fail
      refine (HR1.out _).mono ?_
      rintro e w3 ⟨rfl, rfl⟩
      go_wp2_with (first
        | (at_builtin; refine wpList_append_lies _ rfl _ _ _ rfl B 2 i0 (.int .i64 0) 1 8 Tryd.underlying37 hi hz0 hz1 hz2 rfl (by omega) (.slice wa (k + 1 : Nat) wc) (k + 1) _ rfl (R1.out.alloc _) ⟨wr.heap.size, 0, none⟩ 1 1 _ rfl rfl (World.news_of_block (heap_alloc_new wr _)) (int_one1 _) (by omega) (by unfold maxLen; omega) (by omega) (by simp; have := HZ.out; omega) (wr.heap.size + 1) (by simp) ?_; intro g cap w4 hown hgrow hat hlt2)
        | fail)
      have O3 : Hid (Own w4 B (.slice (some ⟨g, 0, none⟩) (k + 1 + 1 : Nat) cap) (wdsTo c L (k + 1 + 1))) := by
        show World.ownsRow _ _ _ _ _ _ _
        rw [HW2.out, List.map_append, List.length_append, wdsTo_length, List.map_singleton]
        exact hown
      have B3 := Lib.hid (hBl.out.trans (below_of_grown hO.out (grown_al hgrow) (Nat.le_refl _) HZ.out))
      clear hown hgrow hat hlt2 R1 hO hBl c0 c1 c2
      go_wp2
      go_roundw
      case rel => exact ⟨k + 1, _, by omega, by go_num, rfl, O3, B3⟩
      case measure => simp [intOf]; omega
    · have hkn : k = n := by omega
      subst hkn
      go_wp2
      go_ret
      exact ⟨_, rfl, hO.out, hBl.out⟩

end Go.Proofs.YtcdjabhdbobghaaDoor
