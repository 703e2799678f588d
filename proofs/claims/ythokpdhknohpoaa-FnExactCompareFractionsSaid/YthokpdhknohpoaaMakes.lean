/-
  No statement is proved here: what the two functions that make a fraction of two int64s return; no condition but that they are int64s.
-/
import Derived.Test.YthokpdhknohpoaaMake
namespace Go.Proofs.Ythokpdhknohpoaa
open Go.RowKit

def billB (n : Int) : Bool := inB n (-1000000000) 1000000000
theorem billB_of {n : Int} (h : billB n = true) : -1000000000 ≤ n ∧ n ≤ 1000000000 := inB_of h
theorem billB_mk {n : Int} (h : -1000000000 ≤ n ∧ n ≤ 1000000000) : billB n = true := inB_mk h
theorem billB_mkno {n : Int} (h : n < -1000000000 ∨ 1000000000 < n) : billB n = false := inB_mkno h

theorem billion_any (n : Int) (w : World) : Calls Try.prog 44 #[.int .i64 n] w fun e w' => e = .returned (.bool (billB n)) ∧ w = w' := by
  go_enter Try.func44, Try.ntmps44
  go_wp2_with fail
  refine (in_any _ _ _ _).mono ?_
  rintro e w' ⟨rfl, rfl⟩
  rw [show inB n (-1000000000) 1000000000 = billB n from rfl]
  go_wp2
  go_ret
  exact ⟨rfl, rfl⟩

set_option maxHeartbeats 400000 in
theorem small_any (n d : Int) (w : World) : Calls Try.prog 46 #[.agg #[.int .i64 n, .int .i64 d]] w fun e w' => e = .returned (.bool (billB n && billB d)) ∧ Below w.heap.size w w' := by
  by_cases h1 : -1000000000 ≤ n
  · by_cases h2 : n ≤ 1000000000
    · by_cases h3 : -1000000000 ≤ d
      · by_cases h4 : d ≤ 1000000000
        · have hb : (billB n && billB d) = true := by rw [billB_mk ⟨h1, h2⟩, billB_mk ⟨h3, h4⟩]; rfl
          rw [hb]
          clear hb
          go_enter Try.func46, Try.ntmps46
          go_wp2
          go_ret
          exact ⟨rfl, by go_grown⟩
        · have hb : (billB n && billB d) = false := by first | rw [billB_mkno (n := n) (by omega), Bool.false_and] | rw [billB_mkno (n := d) (by omega), Bool.and_false]
          rw [hb]
          clear hb
          go_enter Try.func46, Try.ntmps46
          go_wp2
          go_ret
          exact ⟨rfl, by go_grown⟩
      · have hb : (billB n && billB d) = false := by first | rw [billB_mkno (n := n) (by omega), Bool.false_and] | rw [billB_mkno (n := d) (by omega), Bool.and_false]
        rw [hb]
        clear hb
        go_enter Try.func46, Try.ntmps46
        go_wp2
        go_ret
        exact ⟨rfl, by go_grown⟩
    · have hb : (billB n && billB d) = false := by first | rw [billB_mkno (n := n) (by omega), Bool.false_and] | rw [billB_mkno (n := d) (by omega), Bool.and_false]
      rw [hb]
      clear hb
      go_enter Try.func46, Try.ntmps46
      go_wp2
      go_ret
      exact ⟨rfl, by go_grown⟩
  · have hb : (billB n && billB d) = false := by first | rw [billB_mkno (n := n) (by omega), Bool.false_and] | rw [billB_mkno (n := d) (by omega), Bool.and_false]
    rw [hb]
    clear hb
    go_enter Try.func46, Try.ntmps46
    go_wp2
    go_ret
    exact ⟨rfl, by go_grown⟩

/-- What both return: the fraction and its code. -/
def mkF (n d : Int) : Int × Int × Int := if (billB n && billB d) = true then (if d = 0 then (0, 0, 4) else (lowN n d, lowD n d, 0)) else (0, 0, 2)

set_option maxHeartbeats 400000 in
theorem specMake_any (n d x y c : Int) (w : World) (hF : mkF n d = (x, y, c)) :
    Calls Try.prog 14 #[.int .i64 n, .int .i64 d] w fun e w' => e = .returned (.tuple #[.agg #[.int .i64 x, .int .i64 y], .int .i64 c]) ∧ Below w.heap.size w w' := by
  have HF := Lib.hid hF
  clear hF
  cases hn : billB n with
  | false =>
    have e0 : mkF n d = (0, 0, 2) := by simp [mkF, hn]
    have HF2 := HF.out
    rw [e0] at HF2
    simp only [Prod.mk.injEq] at HF2
    obtain ⟨rfl, rfl, rfl⟩ := HF2
    clear HF e0
    go_enter Try.func14, Try.ntmps14
    go_wp2_with fail
    refine (billion_any _ _).mono ?_
    rintro e w' ⟨rfl, rfl⟩
    rw [hn]
    go_wp2
    go_returns
    exact ⟨rfl, by go_grown⟩
  | true =>
    cases hd : billB d with
    | false =>
      have e0 : mkF n d = (0, 0, 2) := by simp [mkF, hd]
      have HF2 := HF.out
      rw [e0] at HF2
      simp only [Prod.mk.injEq] at HF2
      obtain ⟨rfl, rfl, rfl⟩ := HF2
      clear HF e0
      go_enter Try.func14, Try.ntmps14
      go_wp2_with fail
      refine (billion_any _ _).mono ?_
      rintro e w' ⟨rfl, rfl⟩
      rw [hn]
      go_wp2_with fail
      refine (billion_any _ _).mono ?_
      rintro e w' ⟨rfl, rfl⟩
      rw [hd]
      go_wp2
      go_returns
      exact ⟨rfl, by go_grown⟩
    | true =>
      have b1 := billB_of hn
      have b2 := billB_of hd
      by_cases h0 : d = 0
      · subst h0
        have e0 : mkF n 0 = (0, 0, 4) := by simp [mkF, hn, hd]
        have HF2 := HF.out
        rw [e0] at HF2
        simp only [Prod.mk.injEq] at HF2
        obtain ⟨rfl, rfl, rfl⟩ := HF2
        clear HF e0
        go_enter Try.func14, Try.ntmps14
        go_wp2_with fail
        refine (billion_any _ _).mono ?_
        rintro e w' ⟨rfl, rfl⟩
        rw [hn]
        go_wp2_with fail
        refine (billion_any _ _).mono ?_
        rintro e w' ⟨rfl, rfl⟩
        rw [hd]
        go_wp2
        go_returns
        exact ⟨rfl, by go_grown⟩
      · have e0 : mkF n d = (lowN n d, lowD n d, 0) := by simp [mkF, hn, hd, h0]
        have HF2 := HF.out
        rw [e0] at HF2
        simp only [Prod.mk.injEq] at HF2
        obtain ⟨hx, hy, rfl⟩ := HF2
        clear HF e0
        have HX := Lib.hid hx
        have HY := Lib.hid hy
        clear hx hy
        have hd0 : (d == 0) = false := by simp [h0]
        by_cases hneg : d < 0
        · have hmk := fun wx => make_any (-n) (-d) wx (by omega) (by omega) (by omega) (by omega)
          rw [(low_neg n d hneg).1, (low_neg n d hneg).2, HX.out, HY.out] at hmk
          have HM := Lib.hid hmk
          clear hmk
          go_enter Try.func14, Try.ntmps14
          go_wp2_with fail
          refine (billion_any _ _).mono ?_
          rintro e w' ⟨rfl, rfl⟩
          rw [hn]
          go_wp2_with fail
          refine (billion_any _ _).mono ?_
          rintro e w' ⟨rfl, rfl⟩
          rw [hd]
          go_wp2_with fail
          refine (HM.out _).mono ?_
          rintro e w' ⟨rfl, hB⟩
          have hc := bcell hB
          have hz := hB.size
          simp only [World.size_alloc] at hz
          have hB2 : Below w.heap.size w w' := ((Below.refl _ _).alloc (Nat.le_refl _) _).trans (hB.mono (by simp))
          clear hB
          go_wp2
          refine bodyPost_ret (v := .tuple #[.agg #[.int .i64 x, .int .i64 y], .int .i64 0]) (by simp [results, Try.results14, go_sem, hc]) rfl ⟨rfl, by go_grown⟩
        · have hmk := fun wx => make_any n d wx (by omega) (by omega) (by omega) (by omega)
          rw [HX.out, HY.out] at hmk
          have HM := Lib.hid hmk
          clear hmk
          go_enter Try.func14, Try.ntmps14
          go_wp2_with fail
          refine (billion_any _ _).mono ?_
          rintro e w' ⟨rfl, rfl⟩
          rw [hn]
          go_wp2_with fail
          refine (billion_any _ _).mono ?_
          rintro e w' ⟨rfl, rfl⟩
          rw [hd]
          go_wp2_with fail
          refine (HM.out _).mono ?_
          rintro e w' ⟨rfl, hB⟩
          have hc := bcell hB
          have hz := hB.size
          simp only [World.size_alloc] at hz
          have hB2 : Below w.heap.size w w' := ((Below.refl _ _).alloc (Nat.le_refl _) _).trans (hB.mono (by simp))
          clear hB
          go_wp2
          refine bodyPost_ret (v := .tuple #[.agg #[.int .i64 x, .int .i64 y], .int .i64 0]) (by simp [results, Try.results14, go_sem, hc]) rfl ⟨rfl, by go_grown⟩

set_option maxHeartbeats 400000 in
theorem implMake_any (n d x y c : Int) (w : World) (hF : mkF n d = (x, y, c)) :
    Calls Try.prog 15 #[.int .i64 n, .int .i64 d] w fun e w' => e = .returned (.tuple #[.agg #[.int .i64 x, .int .i64 y], .int .i64 c]) ∧ Below w.heap.size w w' := by
  have HF := Lib.hid hF
  clear hF
  have hsm := fun wx => small_any n d wx
  cases hn : (billB n && billB d) with
  | false =>
    have e0 : mkF n d = (0, 0, 2) := by simp only [mkF, hn]; rfl
    have HF2 := HF.out
    rw [e0] at HF2
    simp only [Prod.mk.injEq] at HF2
    obtain ⟨rfl, rfl, rfl⟩ := HF2
    clear HF e0
    rw [hn] at hsm
    have HS := Lib.hid hsm
    clear hsm hn
    go_enter Try.func15, Try.ntmps15
    go_wp2_with fail
    refine (HS.out _).mono ?_
    rintro e w' ⟨rfl, hB⟩
    have hc := bcell hB
    have hz := hB.size
    simp only [World.size_alloc] at hz
    have c0 : w'.cell? ⟨w.heap.size, 0, none⟩ = some (.int .i64 0) := (hc.1 _ _ (by simp; omega)).trans (by simp [go_sem])
    have c1 : w'.cell? ⟨w.heap.size, 1, none⟩ = some (.int .i64 0) := (hc.1 _ _ (by simp; omega)).trans (by simp [go_sem])
    have hB2 : Below w.heap.size w w' := (((Below.refl _ _).alloc (Nat.le_refl _) _).alloc (by simp) _).trans (hB.mono (by simp; omega))
    clear hB
    go_wp2
    refine bodyPost_ret (v := .tuple #[.agg #[.int .i64 0, .int .i64 0], .int .i64 2]) (by simp [results, Try.results15, go_sem, c0, c1]) rfl ⟨rfl, by go_grown⟩
  | true =>
    rw [hn] at hsm
    have HS := Lib.hid hsm
    clear hsm
    by_cases h0 : d = 0
    · subst h0
      have e0 : mkF n 0 = (0, 0, 4) := by unfold mkF; rw [hn]; rfl
      have HF2 := HF.out
      rw [e0] at HF2
      simp only [Prod.mk.injEq] at HF2
      obtain ⟨rfl, rfl, rfl⟩ := HF2
      clear HF e0 hn
      go_enter Try.func15, Try.ntmps15
      go_wp2_with fail
      refine (HS.out _).mono ?_
      rintro e w' ⟨rfl, hB⟩
      have hc := bcell hB
      have hz := hB.size
      simp only [World.size_alloc] at hz
      have c0 : w'.cell? ⟨w.heap.size, 0, none⟩ = some (.int .i64 0) := (hc.1 _ _ (by simp; omega)).trans (by simp [go_sem])
      have c1 : w'.cell? ⟨w.heap.size, 1, none⟩ = some (.int .i64 0) := (hc.1 _ _ (by simp; omega)).trans (by simp [go_sem])
      have hB2 : Below w.heap.size w w' := (((Below.refl _ _).alloc (Nat.le_refl _) _).alloc (by simp) _).trans (hB.mono (by simp; omega))
      clear hB
      go_wp2
      refine bodyPost_ret (v := .tuple #[.agg #[.int .i64 0, .int .i64 0], .int .i64 4]) (by simp [results, Try.results15, go_sem, c0, c1]) rfl ⟨rfl, by go_grown⟩
    · have e0 : mkF n d = (lowN n d, lowD n d, 0) := by unfold mkF; rw [hn, if_pos rfl, if_neg h0]
      have HF2 := HF.out
      rw [e0] at HF2
      simp only [Prod.mk.injEq] at HF2
      obtain ⟨hx, hy, rfl⟩ := HF2
      clear HF e0
      rw [Bool.and_eq_true] at hn
      have b1 := billB_of hn.1
      have b2 := billB_of hn.2
      clear hn
      have hmk := fun wx => reduced_any n d wx (by omega) (by omega) (by omega) (by omega) h0
      rw [hx, hy] at hmk
      clear hx hy
      have HM := Lib.hid hmk
      clear hmk
      have hd0 : (d == 0) = false := by simp [h0]
      go_enter Try.func15, Try.ntmps15
      go_wp2_with fail
      refine (HS.out _).mono ?_
      rintro e w' ⟨rfl, hB⟩
      have hc := bcell hB
      have hz := hB.size
      simp only [World.size_alloc] at hz
      have c0 : w'.cell? ⟨w.heap.size, 0, none⟩ = some (.int .i64 0) := (hc.1 _ _ (by simp; omega)).trans (by simp [go_sem])
      have c1 : w'.cell? ⟨w.heap.size, 1, none⟩ = some (.int .i64 0) := (hc.1 _ _ (by simp; omega)).trans (by simp [go_sem])
      have hB2 : Below w.heap.size w w' := (((Below.refl _ _).alloc (Nat.le_refl _) _).alloc (by simp) _).trans (hB.mono (by simp; omega))
      clear hB
      go_wp2_with fail
      refine (HM.out _).mono ?_
      rintro e w3 ⟨rfl, hB⟩
      have hc3 := bcell hB
      have hz3 := hB.size
      have d0 : w3.cell? ⟨w.heap.size, 0, none⟩ = some (.int .i64 0) := (hc3.1 _ _ (by omega)).trans c0
      have d1 : w3.cell? ⟨w.heap.size, 1, none⟩ = some (.int .i64 0) := (hc3.1 _ _ (by omega)).trans c1
      have hB3 : Below w.heap.size w w3 := hB2.trans (hB.mono (by omega))
      have f0 : w3.frozen? ⟨w.heap.size, 0, none⟩ = false := (hc3.2 _ _ (by omega)).trans ((hc.2 _ _ (by simp; omega)).trans (by simp [go_sem]))
      have f1 : w3.frozen? ⟨w.heap.size, 1, none⟩ = false := (hc3.2 _ _ (by omega)).trans ((hc.2 _ _ (by simp; omega)).trans (by simp [go_sem]))
      clear hB hB2 hc hc3 c0 c1
      go_wp2
      refine bodyPost_ret (v := .tuple #[.agg #[.int .i64 x, .int .i64 y], .int .i64 0]) (by simp [results, Try.results15, go_sem, d0, d1]) rfl ⟨rfl, by go_grown⟩
end Go.Proofs.Ythokpdhknohpoaa
