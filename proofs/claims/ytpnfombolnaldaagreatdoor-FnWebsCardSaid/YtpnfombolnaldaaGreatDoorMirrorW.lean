/-
  No statement is proved here: what MirrorWeb answers, in the program and in the document's own text; condition: at most 1048576 stripes.
-/
import Derived.Test.YtpnfombolnaldaaGreatDoorMirror
namespace Go.Proofs.YtpnfombolnaldaaGreatDoor
open Go.ChangeShapes Go.WideShapes Go.ChangeAt Go.RowKit

set_option maxRecDepth 100000 in
set_option maxHeartbeats 2000000 in
theorem implMirror_any (v : Value) (zs : List Int) (w : World) (h : Ints w v zs) (hn : zs.length ≤ 1048576) :
    Calls Tryz.prog 15 #[v] w fun e w' => ∃ r, e = .returned (.tuple #[r, .int .i64 (mirF zs).2]) ∧ Own w' w.heap.size r (mirF zs).1 ∧ Below w.heap.size w w' := by
  have hin := valid_any v zs w h hn
  cases hok : okW zs with
  | false =>
    rw [hok] at hin
    have HI := Lib.hid hin
    rw [mirF_no hok]
    clear hin hok h
    go_enter Tryz.func15, Tryz.ntmps15
    go_wp2_with (first | (go_at_call 19; refine HI.out.mono ?_; rintro e w' ⟨rfl, rfl⟩) | go_in)
    go_returns
    exact ⟨_, rfl, World.ownsRow_nil _ _ _ _, Below.refl _ _⟩
  | true =>
    rw [hok] at hin
    have HI := Lib.hid hin
    have HM := Lib.hid (mirrored_any v zs w h hn (by have := okW_len hok; omega))
    rw [mirF_yes hok]
    clear hin hok h
    go_enter Tryz.func15, Tryz.ntmps15
    go_wp2_with (first | (go_at_call 19; refine HI.out.mono ?_; rintro e w' ⟨rfl, rfl⟩) | (go_at_call 47; refine HM.out.mono ?_; rintro e w1 ⟨r, rfl, own, hB⟩) | go_in)
    go_returns
    exact ⟨_, rfl, own, hB⟩

set_option maxRecDepth 100000 in
set_option maxHeartbeats 2000000 in
theorem specMirror_any (v : Value) (zs : List Int) (w : World) (h : Ints w v zs) (hn : zs.length ≤ 1048576) :
    Calls Tryz.prog 16 #[v] w fun e w' => ∃ r, e = .returned (.tuple #[r, .int .i64 (mirF zs).2]) ∧ Own w' w.heap.size r (mirF zs).1 ∧ Below w.heap.size w w' := by
  obtain ⟨i0, hi, hz0, hz1, hz2⟩ := info_parts info64
  have hin := l02Ok_any v zs w h hn
  cases hok : okW zs with
  | false =>
    rw [hok] at hin
    have HI := Lib.hid hin
    rw [mirF_no hok]
    clear hin hok h
    go_enter Tryz.func16, Tryz.ntmps16
    go_wp2_with fail
    refine HI.out.mono ?_
    rintro e w' ⟨rfl, rfl⟩
    go_wp2_with fail
    go_returns
    exact ⟨_, rfl, World.ownsRow_made w #[] 0 (Nat.le_refl _) (by decide) rfl, (Below.refl _ _).alloc (Nat.le_refl _) _⟩
  | true =>
    rw [hok] at hin
    have HI := Lib.hid hin
    rw [mirF_yes hok]
    have hl := okW_len hok
    have hbw0 := h.blk (by omega)
    obtain ⟨b1, o1, c1, rfl, hc1⟩ := h.pos (by omega)
    have hbw : b1 < w.heap.size := hbw0 b1 o1 none _ _ rfl
    clear hin hok h hbw0
    have U1 := Lib.hid (mir_step zs)
    have U3 := Lib.hid (mir_all zs)
    have U4 := Lib.hid (show zs.reverse.length = zs.length from List.length_reverse)
    obtain ⟨n, hln⟩ : ∃ n, n = zs.length := ⟨_, rfl⟩
    rw [← hln] at U1 U3 U4 HI hc1 hn hl ⊢
    have HC := Lib.hid hc1
    clear hc1 hln
    obtain ⟨B, hBe⟩ : ∃ B, B = w.heap.size := ⟨_, rfl⟩
    have HB := Lib.hid hBe
    have hst0 : (w.alloc (.cells #[] 2)).ownsRow B 2 1 (.slice (some ⟨w.heap.size, 0, none⟩) 0 0) 0 ((zs.reverse.take 0).map (Value.int .i64)) := World.ownsRow_made w #[] 0 (by omega) (by decide) rfl
    have hst1 : Below B w (w.alloc (.cells #[] 2)) := (Below.refl _ _).alloc (by omega) _
    have S0 := Lib.hid hst0
    have S1 := Lib.hid hst1
    rw [← hBe] at hbw ⊢
    clear hst0 hst1 hBe
    go_enter Tryz.func16, Tryz.ntmps16
    go_wp2_with fail
    refine HI.out.mono ?_
    rintro e w' ⟨rfl, rfl⟩
    go_wp2_with fail
    go_loopw [4, 5] (fun v i wr => ∃ (k : Nat) (q : Int) (u : Value), k ≤ n ∧ q + (k : Int) + 1 = (n : Int) ∧ i = .int .i64 q ∧ u = v ∧ Hid (wr.ownsRow B 2 1 v k ((zs.reverse.take k).map (Value.int .i64))) ∧ Hid (Below B w wr)) (fun _ i _ => (intOf i + 1).toNat)
    case atStart => exact ⟨0, (n : Int) - 1, _, Nat.zero_le _, by omega, rfl, rfl, S0, S1⟩
    case round =>
      clear S0 S1
      obtain ⟨k, q, v, hk, hq, rfl, rfl, hO, hE⟩ := hrel
      by_cases hlt : k < n
      · obtain ⟨j, rfl⟩ := Int.eq_ofNat_of_zero_le (show 0 ≤ q by omega)
        have hj : n - 1 - k = j := by omega
        have hjn : j < n := by omega
        have c1 : wr.cell? ⟨b1, o1 + j, none⟩ = some (.int .i64 (zs.getD j 0)) := (hE.out.cell (p := ⟨b1, o1 + j, none⟩) hbw).trans (HC.out j hjn)
        have u1 := U1.out k hlt
        rw [hj] at u1
        obtain ⟨z, hz⟩ : ∃ z, z = zs.getD j 0 := ⟨_, rfl⟩
        rw [← hz] at c1 u1
        have HU := Lib.hid u1
        clear hz u1 hj
        have hszB : B ≤ wr.heap.size := by have := hE.out.size; rw [HB.out]; exact this
        have hq2 := Lib.hid hq
        have hj3 : (j : Int) < (n : Int) := by omega
        clear hq
        go_wp2_with (first
          | (at_builtin; refine wpList_append_lies _ rfl _ _ _ rfl B 2 i0 (.int .i64 0) 1 8 Tryz.underlying24 hi hz0 hz1 hz2 rfl (by omega) v k _ rfl (hO.out.alloc _) ⟨wr.heap.size, 0, none⟩ 1 1 _ rfl rfl (World.news_of_block (heap_alloc_new wr _)) (one_one _) (by omega) (by unfold maxLen; omega) (by omega) (by simp; omega) (wr.heap.size + 1) (by simp) ?_; intro gg cap w1 hown1 hgrow hat hlt2)
          | go_in)
        have hE2 := hE.out.grown (grown_alloc hgrow) hszB (fun j hj => (hO.out.lt j hj).1)
        have HO2 : Hid (w1.ownsRow B 2 1 (.slice (some ⟨gg, 0, none⟩) (k + 1) cap) (k + 1) ((zs.reverse.take (k + 1)).map (Value.int .i64))) := by
          rw [HU.out, List.map_append]
          exact hown1
        clear hgrow hown1 hat hlt2
        have hq := hq2.out
        go_roundw
        case rel => exact ⟨k + 1, (j : Int) - 1, _, by omega, by omega, by go_num, rfl, HO2, hE2⟩
        case measure => first | (simp [intOf]; done) | (simp [intOf]; omega)
      · have hkn : k = n := by omega
        subst hkn
        have e := hO.out
        rw [U3.out] at e
        have HE := Lib.hid e
        clear e
        have hneg : q = -1 := by omega
        subst hneg
        go_wp2_with fail
        go_returns
        refine ⟨_, rfl, ?_, hE.out⟩
        unfold Own
        rw [U4.out]
        exact HE.out
end Go.Proofs.YtpnfombolnaldaaGreatDoor
