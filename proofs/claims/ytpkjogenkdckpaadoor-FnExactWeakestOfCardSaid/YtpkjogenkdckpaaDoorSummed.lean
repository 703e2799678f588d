/-
  No statement is proved here: the sums of yarns and the making of a yarn, as the program and as the document's own text do it; condition: at most 1048576 yarns.
-/
import Derived.Test.YtpkjogenkdckpaaDoorHolds
namespace Go.Proofs.YtpkjogenkdckpaaDoor
open Go.ChangeShapes Go.WideShapes Go.ChangeAt Go.RowKit

/-- The sum of a measure of the first k yarns. -/
def sm (f : Yn → Int) (ys : List Yn) (k : Nat) : Int := ((ys.take k).map f).sum
theorem sm_step (f : Yn → Int) (ys : List Yn) (k : Nat) (hk : k < ys.length) : sm f ys (k + 1) = sm f ys k + f (yat ys k) := by
  rw [sm, takeY hk, List.map_append, List.sum_append, ← sm]
  simp
theorem sm_bd {f : Yn → Int} {ys : List Yn} (h : ∀ j, -32768 ≤ f (yat ys j) ∧ f (yat ys j) ≤ 32767) : ∀ k, k ≤ ys.length → -(32768 * (k : Int)) ≤ sm f ys k ∧ sm f ys k ≤ 32767 * (k : Int)
  | 0, _ => by simp [sm]
  | k + 1, hk => by
    have ih := sm_bd h k (by omega)
    have := h k
    rw [sm_step f ys k (by omega)]
    omega
abbrev longY (y : Yn) : Int := y.1
abbrev twistY (y : Yn) : Int := y.2.1
abbrev gramsY (y : Yn) : Int := y.2.2

/-- A box of a yarn that may be written. -/
def YFree (w : World) (b : Nat) (x y z : Int) : Prop := (w.cell? ⟨b, 0, none⟩ = some (.int .i16 x) ∧ w.cell? ⟨b, 1, none⟩ = some (.int .i16 y) ∧ w.cell? ⟨b, 2, none⟩ = some (.int .i16 z)) ∧
  w.frozen? ⟨b, 0, none⟩ = false ∧ w.frozen? ⟨b, 1, none⟩ = false ∧ w.frozen? ⟨b, 2, none⟩ = false
theorem YFree.below {w w' : World} {b B : Nat} {x y z : Int} (h : YFree w b x y z) (hB : Below B w w') (hb : b < B) : YFree w' b x y z :=
  ⟨⟨kept hB hb h.1.1, kept hB hb h.1.2.1, kept hB hb h.1.2.2⟩, (hB.frozen (p := ⟨b, 0, none⟩) hb).trans h.2.1, (hB.frozen (p := ⟨b, 1, none⟩) hb).trans h.2.2.1, (hB.frozen (p := ⟨b, 2, none⟩) hb).trans h.2.2.2⟩
theorem yfree_set {w : World} {b : Nat} {x y z : Int} (h : YFree w b x y z) (p q r : Int) :
    (((w.setCell ⟨b, 0, none⟩ (.int .i16 p)).setCell ⟨b, 1, none⟩ (.int .i16 q)).setCell ⟨b, 2, none⟩ (.int .i16 r)).cell? ⟨b, 0, none⟩ = some (.int .i16 p) ∧
    (((w.setCell ⟨b, 0, none⟩ (.int .i16 p)).setCell ⟨b, 1, none⟩ (.int .i16 q)).setCell ⟨b, 2, none⟩ (.int .i16 r)).cell? ⟨b, 1, none⟩ = some (.int .i16 q) ∧
    (((w.setCell ⟨b, 0, none⟩ (.int .i16 p)).setCell ⟨b, 1, none⟩ (.int .i16 q)).setCell ⟨b, 2, none⟩ (.int .i16 r)).cell? ⟨b, 2, none⟩ = some (.int .i16 r) := by
  obtain ⟨⟨h0, h1, h2⟩, _⟩ := h
  exact ⟨by simp [go_sem, h0], by simp [go_sem, h1], by simp [go_sem, h2]⟩

theorem yfree_new (w : World) : YFree (w.alloc (.cells #[.int .i16 0, .int .i16 0, .int .i16 0] 25)) w.heap.size 0 0 0 :=
  ⟨⟨by simp [go_sem], by simp [go_sem], by simp [go_sem]⟩, by simp [go_sem], by simp [go_sem], by simp [go_sem]⟩

/-- A box of three int64s that may be written. -/
def MFree (w : World) (b : Nat) (x y z : Int) : Prop := (w.cell? ⟨b, 0, none⟩ = some (.int .i64 x) ∧ w.cell? ⟨b, 1, none⟩ = some (.int .i64 y) ∧ w.cell? ⟨b, 2, none⟩ = some (.int .i64 z)) ∧
  w.frozen? ⟨b, 0, none⟩ = false ∧ w.frozen? ⟨b, 1, none⟩ = false ∧ w.frozen? ⟨b, 2, none⟩ = false
theorem MFree.below {w w' : World} {b B : Nat} {x y z : Int} (h : MFree w b x y z) (hB : Below B w w') (hb : b < B) : MFree w' b x y z :=
  ⟨⟨kept hB hb h.1.1, kept hB hb h.1.2.1, kept hB hb h.1.2.2⟩, (hB.frozen (p := ⟨b, 0, none⟩) hb).trans h.2.1, (hB.frozen (p := ⟨b, 1, none⟩) hb).trans h.2.2.1, (hB.frozen (p := ⟨b, 2, none⟩) hb).trans h.2.2.2⟩
theorem mfree_new (w : World) (x y z : Int) : MFree (w.alloc (.cells #[.int .i64 x, .int .i64 y, .int .i64 z] 76)) w.heap.size x y z :=
  ⟨⟨by simp [go_sem], by simp [go_sem], by simp [go_sem]⟩, by simp [go_sem], by simp [go_sem], by simp [go_sem]⟩
theorem mfree_set {w : World} {b : Nat} {x y z : Int} (h : MFree w b x y z) (p q r : Int) :
    (((w.setCell ⟨b, 0, none⟩ (.int .i64 p)).setCell ⟨b, 1, none⟩ (.int .i64 q)).setCell ⟨b, 2, none⟩ (.int .i64 r)).cell? ⟨b, 0, none⟩ = some (.int .i64 p) ∧
    (((w.setCell ⟨b, 0, none⟩ (.int .i64 p)).setCell ⟨b, 1, none⟩ (.int .i64 q)).setCell ⟨b, 2, none⟩ (.int .i64 r)).cell? ⟨b, 1, none⟩ = some (.int .i64 q) ∧
    (((w.setCell ⟨b, 0, none⟩ (.int .i64 p)).setCell ⟨b, 1, none⟩ (.int .i64 q)).setCell ⟨b, 2, none⟩ (.int .i64 r)).cell? ⟨b, 2, none⟩ = some (.int .i64 r) := by
  obtain ⟨⟨h0, h1, h2⟩, _⟩ := h
  exact ⟨by simp [go_sem, h0], by simp [go_sem, h1], by simp [go_sem, h2]⟩
theorem mfree_put {w : World} {b : Nat} {x y z : Int} (h : MFree w b x y z) (p q r : Int) : MFree (((w.setCell ⟨b, 0, none⟩ (.int .i64 p)).setCell ⟨b, 1, none⟩ (.int .i64 q)).setCell ⟨b, 2, none⟩ (.int .i64 r)) b p q r := by
  refine ⟨mfree_set h p q r, ?_⟩
  obtain ⟨_, g0, g1, g2⟩ := h
  exact ⟨by simp [go_sem, g0], by simp [go_sem, g1], by simp [go_sem, g2]⟩

theorem mkYarn_any (l t g : Int) (w : World) (h : okR l t g = true) :
    Calls Tryd.prog 48 #[.agg #[.int .i64 l, .int .i64 t, .int .i64 g]] w fun e w' => e = .returned (.agg #[.int .i16 l, .int .i16 t, .int .i16 g]) ∧ Below w.heap.size w w' := by
  obtain ⟨⟨h1, h2⟩, ⟨h3, h4⟩, h5, h6⟩ := okR_of h
  clear h
  go_enter Tryd.func48, Tryd.ntmps48
  go_wp2
  go_returns
  exact ⟨rfl, by go_grown⟩

/-- What l03Make makes. -/
def mkY (l t g : Int) : Yn := if okR l t g = true then (l, t, g) else (0, 0, 0)
theorem mkY_yes {l t g : Int} (h : okR l t g = true) : mkY l t g = (l, t, g) := if_pos h
theorem mkY_no {l t g : Int} (h : okR l t g = false) : mkY l t g = (0, 0, 0) := if_neg (by rw [h]; simp)

set_option maxHeartbeats 1000000 in
theorem l03Make_any (l t g : Int) (w : World) :
    Calls Tryd.prog 42 #[.int .i64 l, .int .i64 t, .int .i64 g] w fun e w' => e = .returned (.tuple #[.agg #[.int .i16 (mkY l t g).1, .int .i16 (mkY l t g).2.1, .int .i16 (mkY l t g).2.2], .bool (okR l t g)]) ∧ Below w.heap.size w w' := by
  have H1 := Lib.hid fun wx => in_any l 1 5000 wx
  have H2 := Lib.hid fun wx => in_any t (-2000) 2000 wx
  have H3 := Lib.hid fun wx => in_any g 1 2000 wx
  cases h1 : inB l 1 5000 with
  | false =>
    have hk : okR l t g = false := by simp [okR, h1]
    rw [mkY_no hk, hk]
    rw [h1] at H1
    clear h1 hk H2 H3
    go_enter Tryd.func42, Tryd.ntmps42
    go_wp2_with fail
    refine (H1.out _).mono ?_
    rintro e w' ⟨rfl, rfl⟩
    go_wp2
    go_returns
    exact ⟨rfl, by go_grown⟩
  | true =>
    cases h2 : inB t (-2000) 2000 with
    | false =>
      have hk : okR l t g = false := by simp [okR, h1, h2]
      rw [mkY_no hk, hk]
      rw [h1] at H1
      rw [h2] at H2
      clear h1 h2 hk H3
      go_enter Tryd.func42, Tryd.ntmps42
      go_wp2_with fail
      refine (H1.out _).mono ?_
      rintro e w' ⟨rfl, rfl⟩
      go_wp2_with fail
      refine (H2.out _).mono ?_
      rintro e w' ⟨rfl, rfl⟩
      go_wp2
      go_returns
      exact ⟨rfl, by go_grown⟩
    | true =>
      cases h3 : inB g 1 2000 with
      | false =>
        have hk : okR l t g = false := by simp [okR, h1, h2, h3]
        rw [mkY_no hk, hk]
        rw [h1] at H1
        rw [h2] at H2
        rw [h3] at H3
        clear h1 h2 h3 hk
        go_enter Tryd.func42, Tryd.ntmps42
        go_wp2_with fail
        refine (H1.out _).mono ?_
        rintro e w' ⟨rfl, rfl⟩
        go_wp2_with fail
        refine (H2.out _).mono ?_
        rintro e w' ⟨rfl, rfl⟩
        go_wp2_with fail
        refine (H3.out _).mono ?_
        rintro e w' ⟨rfl, rfl⟩
        go_wp2
        go_returns
        exact ⟨rfl, by go_grown⟩
      | true =>
        have hk : okR l t g = true := by simp [okR, h1, h2, h3]
        rw [mkY_yes hk, hk]
        obtain ⟨⟨k1, k2⟩, ⟨k3, k4⟩, k5, k6⟩ := okR_of hk
        rw [h1] at H1
        rw [h2] at H2
        rw [h3] at H3
        clear h1 h2 h3 hk
        go_enter Tryd.func42, Tryd.ntmps42
        go_wp2_with fail
        refine (H1.out _).mono ?_
        rintro e w' ⟨rfl, rfl⟩
        go_wp2_with fail
        refine (H2.out _).mono ?_
        rintro e w' ⟨rfl, rfl⟩
        go_wp2_with fail
        refine (H3.out _).mono ?_
        rintro e w' ⟨rfl, rfl⟩
        go_wp2
        go_returns
        exact ⟨rfl, by go_grown⟩

set_option maxRecDepth 100000 in
set_option maxHeartbeats 4000000 in
theorem summed_any (v : Value) (ys : List Yn) (w : World) (h : Yarns w v ys) (hn : ys.length ≤ 1048576) (h0 : 0 < ys.length) :
    Calls Tryd.prog 55 #[v] w fun e w' => e = .returned (.agg #[.int .i64 (sm longY ys ys.length), .int .i64 (sm twistY ys ys.length), .int .i64 (sm gramsY ys ys.length)]) ∧ Below w.heap.size w w' := by
  obtain ⟨b, off, cap, rfl, hb, hc⟩ := h.pos h0
  have H16 := Lib.hid h.1
  have S1 := Lib.hid (sm_step longY ys)
  have S2 := Lib.hid (sm_step twistY ys)
  have S3 := Lib.hid (sm_step gramsY ys)
  have D1 := Lib.hid (sm_bd (f := longY) (ys := ys) fun j => (h.1 j).1)
  have D2 := Lib.hid (sm_bd (f := twistY) (ys := ys) fun j => (h.1 j).2.1)
  have D3 := Lib.hid (sm_bd (f := gramsY) (ys := ys) fun j => (h.1 j).2.2)
  obtain ⟨n, hln⟩ : ∃ n, n = ys.length := ⟨_, rfl⟩
  rw [← hln] at S1 S2 S3 D1 D2 D3 hc hn h0 ⊢
  have HC := Lib.hid hc
  clear hc hln h
  go_enter Tryd.func55, Tryd.ntmps55
  go_wp2
  go_loopw [9] (fun i wr => ∃ (k : Nat) (q1 q2 q3 : Int), k ≤ n ∧ i = .int .i64 k ∧ Hid (q1 = sm longY ys k ∧ q2 = sm twistY ys k ∧ q3 = sm gramsY ys k) ∧ Hid (MFree wr (w.heap.size + 1) q1 q2 q3) ∧ Hid (MFree wr w.heap.size 0 0 0) ∧ Hid (w.heap.size + 1 < wr.heap.size) ∧ Hid (Below w.heap.size w wr)) (fun i _ => n - (intOf i).toNat)
  case atStart => exact ⟨0, 0, 0, 0, Nat.zero_le _, rfl, Lib.hid ⟨rfl, rfl, rfl⟩, Lib.hid ⟨⟨by simp [go_sem], by simp [go_sem], by simp [go_sem]⟩, by simp [go_sem], by simp [go_sem], by simp [go_sem]⟩, Lib.hid ⟨⟨by simp [go_sem], by simp [go_sem], by simp [go_sem]⟩, by simp [go_sem], by simp [go_sem], by simp [go_sem]⟩, Lib.hid (by simp), Lib.hid (by go_grown)⟩
  case round =>
    obtain ⟨k, q1, q2, q3, hk, rfl, hq, hM, hR, hZ, hB⟩ := hrel
    by_cases hlt : k < n
    · obtain ⟨p1, p2, p3⟩ := HC.out k hlt
      have u3 := H16.out k
      have b1 := D1.out k hk
      have b2 := D2.out k hk
      have b3 := D3.out k hk
      have E1 := Lib.hid (S1.out k hlt)
      have E2 := Lib.hid (S2.out k hlt)
      have E3 := Lib.hid (S3.out k hlt)
      rw [← hq.out.1] at b1 E1
      rw [← hq.out.2.1] at b2 E2
      rw [← hq.out.2.2] at b3 E3
      obtain ⟨y, hy⟩ : ∃ y, y = yat ys k := ⟨_, rfl⟩
      rw [← hy] at p1 p2 p3 u3 E1 E2 E3
      clear hy hq
      obtain ⟨y0, y1, y2⟩ := y
      simp only [longY, twistY, gramsY] at p1 p2 p3 E1 E2 E3
      have d1 := (hB.out.cell (p := ⟨b, off + k * 3, none⟩) hb).trans p1
      have d2 := (hB.out.cell (p := ⟨b, off + k * 3 + 1, none⟩) hb).trans p2
      have d3 := (hB.out.cell (p := ⟨b, off + k * 3 + 2, none⟩) hb).trans p3
      have HV := Lib.hid fun wx => measures_any y0 y1 y2 wx u3
      obtain ⟨⟨r1, r2⟩, ⟨r3, r4⟩, r5, r6⟩ := u3
      simp only at r1 r2 r3 r4 r5 r6
      clear p1 p2 p3
      go_wp2_with fail
      refine (HV.out _).mono ?_
      rintro e w2 ⟨rfl, hB2⟩
      have hz := hZ.out
      have hs2 := hB2.size
      simp only [World.size_alloc] at hs2
      have hl2 : w.heap.size + 1 < w2.heap.size := by omega
      have hM2 := Lib.hid ((hM.out.below ((Below.refl wr.heap.size wr).alloc (Nat.le_refl _) _) hz).below hB2 (by simp; omega))
      have hR2 := Lib.hid ((hR.out.below ((Below.refl wr.heap.size wr).alloc (Nat.le_refl _) _) (by omega)).below hB2 (by simp; omega))
      have B2 := Lib.hid ((hB.out.alloc hB.out.size _).trans (hB2.mono (by have := hB.out.size; simp; omega)))
      obtain ⟨⟨m0, m1, m2⟩, n0, n1, n2⟩ := hM2.out
      clear hB2 d1 d2 d3 hz hs2
      go_wp2
      go_roundw
      case rel =>
        refine ⟨k + 1, q1 + y0, q2 + y1, q3 + y2, by omega, by go_num, Lib.hid ⟨E1.out.symm, E2.out.symm, E3.out.symm⟩, Lib.hid ?_, Lib.hid ?_, Lib.hid ?_, Lib.hid ?_⟩
        · exact (mfree_put hM2.out (q1 + y0) (q2 + y1) (q3 + y2)).below ((Below.refl _ _).alloc (Nat.le_refl _) _) (by simpa using hl2)
        · exact hR2.out.below (((((Below.refl (w.heap.size + 1) _).setCell (Nat.le_refl _) _).setCell (Nat.le_refl _) _).setCell (Nat.le_refl _) _).alloc (by simp only [World.size_setCell]; omega) _) (Nat.lt_succ_self _)
        · simp; omega
        · exact (((B2.out.setCell (Nat.le_succ _) _).setCell (Nat.le_succ _) _).setCell (Nat.le_succ _) _).alloc (by simpa using B2.out.size) _
      case measure => simp [intOf]; omega
    · have hkn : k = n := by omega
      subst hkn
      have hl := hZ.out
      obtain ⟨⟨m0, m1, m2⟩, n0, n1, n2⟩ := hM.out
      obtain ⟨⟨m0', m1', m2'⟩, n0', n1', n2'⟩ := hR.out
      have ht := mfree_set hR.out q1 q2 q3
      go_wp2
      refine bodyPost_ret (v := .agg #[.int .i64 q1, .int .i64 q2, .int .i64 q3]) (by simp [results, go_sem, ht.1, ht.2.1, ht.2.2, Tryd.f55]) rfl ?_
      refine ⟨?_, ((hB.out.setCell (Nat.le_refl _) _).setCell (Nat.le_refl _) _).setCell (Nat.le_refl _) _⟩
      rw [hq.out.1, hq.out.2.1, hq.out.2.2]
end Go.Proofs.YtpkjogenkdckpaaDoor
