/-
  No statement is proved here: the lengths of yarns as a list of the program's own, and the least of a list; condition: at most 1048576 yarns.
-/
import Derived.Test.YtpkjogenkdckpaaDoorPlyLong
import Derived.Test.YtpkjogenkdckpaaDoorInts
import Derived.Test.YtpkjogenkdckpaaDoorIntsEq
namespace Go.Proofs.YtpkjogenkdckpaaDoor
open Go.ChangeShapes Go.WideShapes Go.ChangeAt Go.RowKit

/-- The lengths of yarns. -/
def longs (ys : List Yn) : List Int := ys.map fun y => y.1
theorem longs_length (ys : List Yn) : (longs ys).length = ys.length := by simp [longs]
theorem longs_get (ys : List Yn) (k : Nat) : (longs ys).getD k 0 = (yat ys k).1 := by
  unfold longs yat
  by_cases h : k < ys.length
  · simp [List.getD, List.getElem?_eq_getElem h]
  · simp [List.getD, List.getElem?_eq_none (show ys.length ≤ k by omega)]

theorem own_below {w w' : World} {base g n cap : Nat} {e : TypeId} {size : Nat} {xs : List Value} (h : w.ownsRow base e size (.slice (some ⟨g, 0, none⟩) n cap) n xs) (hB : Below w.heap.size w w') : w'.ownsRow base e size (.slice (some ⟨g, 0, none⟩) n cap) n xs := by
  refine ⟨h.1, ?_⟩
  rcases h.2 with h2 | ⟨g', cap', cur, hv, hg, hh, r⟩
  · exact .inl h2
  · exact .inr ⟨g', cap', cur, hv, hg, by rw [hB.block g' (lt_of_block hh)]; exact hh, r⟩

set_option maxRecDepth 100000 in
set_option maxHeartbeats 2000000 in
theorem spoolsOf_any (v : Value) (ys : List Yn) (w : World) (h : Yarns w v ys) (hn : ys.length ≤ 1048576) :
    Calls Tryd.prog 66 #[v] w fun e w' => ∃ u, e = .returned u ∧ Own w' w.heap.size u (longs ys) ∧ Below w.heap.size w w' := by
  obtain ⟨i0, hi, hz0, hz1, hz2⟩ := info_parts info64
  by_cases h0 : ys.length = 0
  · have hx : ys = [] := List.length_eq_zero_iff.1 h0
    subst hx
    obtain ⟨a, cap, rfl⟩ := h.nil
    go_enter Tryd.func66, Tryd.ntmps66
    go_wp2_with (first | (at_make; refine wpList_make_full _ rfl _ _ 96 rfl w.heap.size 2 i0 (.int .i64 0) 1 Tryd.underlying96 hi hz0 hz1 _ _ _ _ 0 rfl rfl rfl rfl (by omega) (by decide) (Nat.le_refl _) ?_; intro w1 hown hgrow) | go_in)
    go_rounds 1
    go_ret
    exact ⟨_, rfl, by simpa [madeCells, Own, longs] using hown, (Below.refl _ _).grown hgrow (Nat.le_refl _) (fun k hk => by cases hk)⟩
  · obtain ⟨b, off, cap, rfl, hb, hc⟩ := h.pos (by omega)
    have H16 := Lib.hid h.1
    obtain ⟨zs, hzs⟩ : ∃ zs, zs = longs ys := ⟨_, rfl⟩
    have hzl : zs.length = ys.length := by rw [hzs, longs_length]
    have HG := Lib.hid (show ∀ k, (yat ys k).1 = zs.getD k 0 from fun k => by rw [hzs, longs_get])
    rw [← hzs]
    clear hzs
    obtain ⟨n, hln⟩ : ∃ n, n = ys.length := ⟨_, rfl⟩
    have HL := Lib.hid (show n = zs.length by omega)
    rw [← hln] at h0 hn hc ⊢
    clear hln h hzl
    obtain ⟨B, hBe⟩ : ∃ B, B = w.heap.size := ⟨_, rfl⟩
    rw [← hBe] at hb ⊢
    have HB := Lib.hid hBe
    clear hBe
    go_enter Tryd.func66, Tryd.ntmps66
    go_wp2_with (first | (at_make; refine wpList_make_full _ rfl _ _ 96 rfl w.heap.size 2 i0 (.int .i64 0) 1 Tryd.underlying96 hi hz0 hz1 _ _ _ _ n rfl rfl rfl rfl (by rw [hz2]; omega) (by unfold maxLen; omega) (Nat.le_refl _) ?_; intro w1 hown hgrow) | go_in)
    have hB1 : Below B w w1 := (Below.refl _ _).grown hgrow (by rw [HB.out]; omega) (fun k hk => by cases hk)
    have hfl := fun k (hk : k ≤ n) => fill_length zs k (by rw [← HL.out]; exact hk)
    have hst := fun k (hk : k < n) => fill_step zs k (by rw [← HL.out]; exact hk)
    have hz0' : (madeCells (Value.int IntKind.i64 0).cells (n * 1)).toList = (fill zs 0).map (Value.int .i64) := by
      rw [fill_zero, ← HL.out, Nat.mul_one]
      show (madeCells #[Value.int IntKind.i64 0] n).toList = _
      rw [toList_madeCells_one]
      simp
    rw [hz0', ← HB.out] at hown
    rw [← HB.out]
    have HW := Lib.hid hown
    have HC := Lib.hid hc
    have HBB := Lib.hid hB1
    have HFL := Lib.hid hfl
    have HST := Lib.hid hst
    clear hown hc hB1 hgrow hz0' hfl hst
    go_loopw [11] (fun i wr => ∃ k : Nat, k ≤ n ∧ i = .int .i64 k ∧ Hid (wr.ownsRow B 2 1 (.slice (some ⟨B, 0, none⟩) n n) n ((fill zs k).map (Value.int .i64))) ∧ Hid (Below B w wr)) (fun i _ => n - (intOf i).toNat)
    case atStart => exact ⟨0, Nat.zero_le _, rfl, HW, HBB⟩
    case round =>
      obtain ⟨k, hk, rfl, hO, hBe⟩ := hrel
      by_cases hlt : k < n
      · obtain ⟨p1, p2, p3⟩ := HC.out k hlt
        have u3 := (H16.out k).1
        rw [HG.out k] at p1 u3
        have d1 := (hBe.out.cell (p := ⟨b, off + k * 3, none⟩) hb).trans p1
        have d2 := (hBe.out.cell (p := ⟨b, off + k * 3 + 1, none⟩) hb).trans p2
        have d3 := (hBe.out.cell (p := ⟨b, off + k * 3 + 2, none⟩) hb).trans p3
        obtain ⟨z, hz⟩ : ∃ z, z = zs.getD k 0 := ⟨_, rfl⟩
        have HZ := Lib.hid hz
        rw [← hz] at d1 u3
        obtain ⟨y1, hy1⟩ : ∃ y1, y1 = (yat ys k).2.1 := ⟨_, rfl⟩
        obtain ⟨y2, hy2⟩ : ∃ y2, y2 = (yat ys k).2.2 := ⟨_, rfl⟩
        rw [← hy1] at d2
        rw [← hy2] at d3
        have hBl : B < wr.heap.size := (World.ownsRow.lt hO.out B rfl).2
        have hO2 := Lib.hid fun o => own_below hO.out ((Below.refl wr.heap.size wr).alloc (Nat.le_refl _) o)
        have hcy : ∀ o, (wr.alloc o).cell? ⟨B, k, none⟩ = some (.int .i64 ((fill zs k).getD k 0)) := fun o => ((hO2.out o).cellAt k (by omega)).trans (cellOf (by rw [HFL.out k hk, ← HL.out]; exact hlt))
        have hfy : ∀ o, (wr.alloc o).frozen? ⟨B, k, none⟩ = false := fun o => (hO2.out o).frozenAt k
        clear hz hy1 hy2 p1 p2 p3
        go_wp2
        go_roundw
        case rel =>
          refine ⟨k + 1, by omega, by go_num, ?_, Lib.hid ((hBe.out.setCell (p := ⟨B, k, none⟩) (by rw [HB.out]; exact Nat.le_refl _) _).alloc (by simp only [World.size_setCell]; exact Nat.le_of_lt hBl) _)⟩
          have h := (hO.out.stored k (Value.int .i64 z)).1
          rw [← List.map_set, HZ.out, HST.out k hlt] at h
          exact Lib.hid (by rw [HZ.out]; exact own_below h ((Below.refl _ _).alloc (Nat.le_refl _) _))
        case measure => simp [intOf]; omega
      · have hkn : k = n := by omega
        subst hkn
        have e : fill zs k = zs := by rw [HL.out]; exact fill_all zs
        go_wp2
        go_ret
        refine ⟨_, rfl, ?_, hBe.out⟩
        have h := hO.out
        rw [e] at h
        unfold Own
        rw [← HL.out]
        exact h

set_option maxRecDepth 100000 in
set_option maxHeartbeats 2000000 in
theorem slicesMin_any (v : Value) (zs : List Int) (w : World) (h : Ints w v zs) (hn : zs.length ≤ 1048576) (h0 : 0 < zs.length) :
    Calls Tryd.prog 73 #[v] w fun e w' => e = .returned (.int .i64 (minTo (fun j => zs.getD j 0) (zs.length - 1))) ∧ w = w' := by
  obtain ⟨b, off, cap, rfl, hc⟩ := h.pos h0
  have HS := Lib.hid (show minTo (fun j => zs.getD j 0) (zs.length - 1) = minTo (fun j => zs.getD j 0) (zs.length - 1) from rfl)
  obtain ⟨f, hf⟩ : ∃ f : Nat → Int, f = fun j => zs.getD j 0 := ⟨_, rfl⟩
  have HF := Lib.hid (show ∀ j, zs.getD j 0 = f j from fun j => by rw [hf])
  have HU := Lib.hid (show ∀ m, 1 ≤ m → minTo f m = min (minTo f (m - 1)) (f m) from fun m hm => by obtain ⟨k, rfl⟩ : ∃ k, m = k + 1 := ⟨m - 1, by omega⟩; rfl)
  rw [← hf]
  clear hf h HS
  obtain ⟨n, hln⟩ : ∃ n, n = zs.length := ⟨_, rfl⟩
  rw [← hln] at hc hn h0 ⊢
  have HC := Lib.hid hc
  have c0 : w.cell? ⟨b, off, none⟩ = some (.int .i64 (f 0)) := by rw [← HF.out 0]; simpa using hc 0 h0
  obtain ⟨out, ho⟩ : ∃ out, out = minTo f (n - 1) := ⟨_, rfl⟩
  have HO := Lib.hid ho
  rw [← ho]
  clear hc hln ho
  go_enter Tryd.func73, Tryd.ntmps73
  go_wp2
  go_loop [3, 4] (fun s i => ∃ (m : Nat) (q : Int), 1 ≤ m ∧ m ≤ n ∧ i = .int .i64 m ∧ s = .int .i64 q ∧ Hid (q = minTo f (m - 1))) (fun _ i => n - (intOf i).toNat)
  case atStart => exact ⟨1, f 0, Nat.le_refl _, h0, rfl, rfl, by rfl⟩
  case round =>
    obtain ⟨m, q, hm1, hk, rfl, rfl, hq⟩ := hrel
    by_cases hlt : m < n
    · have p1 : w.cell? ⟨b, off + m, none⟩ = _ := HC.out m hlt
      rw [HF.out m] at p1
      have HU2 := Lib.hid (HU.out m hm1)
      rw [← hq.out] at HU2
      generalize f m = z at *
      go_wp2
      go_round
      case rel => exact ⟨m + 1, min q z, by omega, by omega, by go_num, congrArg (Value.int .i64) (by split <;> omega), HU2.out.symm⟩
      case measure => simp [intOf]; omega
    · have hkn : m = n := by omega
      subst hkn
      go_wp2
      go_ret
      exact ⟨ret_int (hq.out.trans HO.out.symm), rfl⟩

theorem min_longs (ys : List Yn) : minTo (fun j => (longs ys).getD j 0) ((longs ys).length - 1) = shortest ys := by
  unfold shortest
  rw [longs_length]
  congr 1
  funext j
  exact longs_get ys j

set_option maxHeartbeats 2000000 in
theorem pliedLong_any (p : Nat → Addr) (v : Value) (ys : List Yn) (t : Int) (w : World) (hs : Sent w p) (h : Yarns w v ys) (hn : ys.length ≤ 1048576) :
    Calls Tryd.prog 58 #[v, .int .i64 t] w fun e w' => e = .returned (.tuple #[.int .i64 (pliedF ys t).1, errOf p (pliedF ys t).2]) ∧ Below w.heap.size w w' := by
  have H1 := Lib.hid (checkPlies_any p v ys t w hs h hn)
  have q1 := neqNil_err
  have q2 := neqNil_nil
  by_cases hc : pliesF ys t = 0
  · have hz := pliesF_zero hc
    have hsb := shortest_bd hz.1 (by omega)
    have H2 := Lib.hid fun wx hx => spoolsOf_any v ys wx hx hn
    have H3 := Lib.hid fun u wx (hx : Ints wx u (longs ys)) => slicesMin_any u (longs ys) wx hx (by rw [longs_length]; exact hn) (by rw [longs_length]; omega)
    rw [min_longs] at H3
    rw [hc, errOf_zero] at H1
    have HY := Lib.hid h
    have HS := Lib.hid hs
    obtain ⟨_, ⟨t1, t2⟩, _⟩ := hz
    have H4 := Lib.hid fun wx => size_any t wx (by omega) (by omega)
    by_cases hsh : shortest ys - (t.natAbs : Int) / 50 < 1
    · rw [pliedF_short hc hsh]
      clear hc h hs
      generalize shortest ys = sh at *
      go_enter Tryd.func58, Tryd.ntmps58
      go_wp2_with fail
      refine H1.out.mono ?_
      rintro e w1 ⟨rfl, hB⟩
      have B1 := Lib.hid hB
      clear hB
      go_wp2_with fail
      refine (H2.out _ (HY.out.below B1.out)).mono ?_
      rintro e w2 ⟨u, rfl, own, hB⟩
      have B2 := Lib.hid (B1.out.trans (hB.mono B1.out.size))
      have O2 := Lib.hid own
      clear hB own
      go_wp2_with fail
      refine (H3.out _ _ O2.out.ints).mono ?_
      rintro e w' ⟨rfl, rfl⟩
      go_wp2_with fail
      refine (H4.out _).mono ?_
      rintro e w' ⟨rfl, rfl⟩
      have g5 := (HS.out.below B2.out).1.2.2.2.2.2
      go_wp2_with fail
      go_quiet (fail)
      go_wp2
      go_ret2
      exact ⟨rfl, below_drewN B2.out _⟩
    · rw [pliedF_yes hc hsh]
      clear hc h hs
      generalize shortest ys = sh at *
      go_enter Tryd.func58, Tryd.ntmps58
      go_wp2_with fail
      refine H1.out.mono ?_
      rintro e w1 ⟨rfl, hB⟩
      have B1 := Lib.hid hB
      clear hB
      go_wp2_with fail
      refine (H2.out _ (HY.out.below B1.out)).mono ?_
      rintro e w2 ⟨u, rfl, own, hB⟩
      have B2 := Lib.hid (B1.out.trans (hB.mono B1.out.size))
      have O2 := Lib.hid own
      clear hB own
      go_wp2_with fail
      refine (H3.out _ _ O2.out.ints).mono ?_
      rintro e w' ⟨rfl, rfl⟩
      go_wp2_with fail
      refine (H4.out _).mono ?_
      rintro e w' ⟨rfl, rfl⟩
      go_wp2_with fail
      go_ret2
      exact ⟨rfl, B2.out⟩
  · have HE := Lib.hid (errOf_not p hc)
    rw [pliedF_no hc]
    rw [errOf_not p hc] at H1
    show Calls _ _ _ _ fun e w' => e = .returned (.tuple #[.int .i64 0, errOf p (pliesF ys t)]) ∧ Below w.heap.size w w'
    rw [HE.out]
    generalize p (pliesF ys t - 1).toNat = ad at *
    clear h hs HE
    go_enter Tryd.func58, Tryd.ntmps58
    go_wp2_with fail
    refine H1.out.mono ?_
    rintro e w1 ⟨rfl, hB⟩
    have B1 := Lib.hid hB
    clear hB
    go_wp2
    go_ret2
    exact ⟨rfl, B1.out⟩

set_option maxHeartbeats 2000000 in
theorem specPlyLong_any (v : Value) (ys : List Yn) (t : Int) (w : World) (h : Yarns w v ys) (hn : ys.length ≤ 1048576) :
    Calls Tryd.prog 23 #[v, .int .i64 t] w fun e w' => e = .returned (.tuple #[.int .i64 (pliedF ys t).1, .int .i64 (pliedF ys t).2]) ∧ Below w.heap.size w w' := by
  have H1 := Lib.hid (l03Plies_any v ys t w h hn)
  have HY := Lib.hid h
  by_cases hc : pliesF ys t = 0
  · have hz := pliesF_zero hc
    have H2 := Lib.hid fun wx hx => l03Plied_any v ys t wx hx hn (by omega) hz.1 hz.2.1
    rw [hc] at H1
    by_cases hsh : shortest ys - (t.natAbs : Int) / 50 < 1
    · rw [pliedF_short hc hsh]
      generalize shortest ys - (t.natAbs : Int) / 50 = L at *
      clear hc h hz
      go_enter Tryd.func23, Tryd.ntmps23
      go_wp2_with fail
      refine H1.out.mono ?_
      rintro e w1 ⟨rfl, hB⟩
      have B1 := Lib.hid hB
      clear hB
      go_wp2_with fail
      refine (H2.out _ (HY.out.below B1.out)).mono ?_
      rintro e w' ⟨rfl, rfl⟩
      go_wp2
      go_ret2
      exact ⟨rfl, B1.out⟩
    · rw [pliedF_yes hc hsh]
      generalize shortest ys - (t.natAbs : Int) / 50 = L at *
      clear hc h hz
      go_enter Tryd.func23, Tryd.ntmps23
      go_wp2_with fail
      refine H1.out.mono ?_
      rintro e w1 ⟨rfl, hB⟩
      have B1 := Lib.hid hB
      clear hB
      go_wp2_with fail
      refine (H2.out _ (HY.out.below B1.out)).mono ?_
      rintro e w' ⟨rfl, rfl⟩
      go_wp2
      go_ret2
      exact ⟨rfl, B1.out⟩
  · rw [pliedF_no hc]
    generalize pliesF ys t = c at *
    have hcb : (c != 0) = true := by simp [hc]
    clear h
    go_enter Tryd.func23, Tryd.ntmps23
    go_wp2_with fail
    refine H1.out.mono ?_
    rintro e w1 ⟨rfl, hB⟩
    have B1 := Lib.hid hB
    clear hB
    go_wp2
    go_ret2
    exact ⟨rfl, B1.out⟩

/-- The code of an error that is or isn't there. -/
theorem codeOf_of {p : Nat → Addr} (c : Int) (h1 : 0 ≤ c) (h2 : c ≤ 6) (w : World) (h : Sent w p) :
    Calls Tryd.prog 45 #[errOf p c] w fun e w' => e = .returned (.int .i64 c) ∧ w = w' := by
  by_cases hc : c = 0
  · subst hc
    exact codeOf_nil w h
  · rw [errOf_not p hc]
    exact codeOf_c c (by omega) h2 w h
theorem pliedF_bd (ys : List Yn) (t : Int) : 0 ≤ (pliedF ys t).2 ∧ (pliedF ys t).2 ≤ 6 := by
  have := pliesF_bd ys t
  unfold pliedF
  split
  · split <;> simp
  · exact ⟨this.1, Int.le_trans this.2 (by decide)⟩

set_option maxHeartbeats 2000000 in
theorem implPlyLong_any (p : Nat → Addr) (v : Value) (ys : List Yn) (t : Int) (w : World) (hs : Sent w p) (h : Yarns w v ys) (hn : ys.length ≤ 1048576) :
    Calls Tryd.prog 24 #[v, .int .i64 t] w fun e w' => e = .returned (.tuple #[.int .i64 (pliedF ys t).1, .int .i64 (pliedF ys t).2]) ∧ Below w.heap.size w w' := by
  have H1 := Lib.hid (pliedLong_any p v ys t w hs h hn)
  have hb := pliedF_bd ys t
  have HS := Lib.hid hs
  generalize (pliedF ys t).1 = L at *
  have H2 := Lib.hid fun wx hx => codeOf_of (p := p) (pliedF ys t).2 hb.1 hb.2 wx hx
  generalize (pliedF ys t).2 = C at *
  generalize errOf p C = E at *
  clear h hs hb
  go_enter Tryd.func24, Tryd.ntmps24
  go_wp2_with fail
  refine H1.out.mono ?_
  rintro e w1 ⟨rfl, hB⟩
  have B1 := Lib.hid hB
  clear hB
  go_wp2_with fail
  refine (H2.out _ (HS.out.below B1.out)).mono ?_
  rintro e w' ⟨rfl, rfl⟩
  go_wp2
  go_ret2
  exact ⟨rfl, B1.out⟩
end Go.Proofs.YtpkjogenkdckpaaDoor
