/-
  No statement is proved here: GentleOnes, in the document's own text and in the program; condition: the program's errors and the library's errorType lie where their texts lay them; at most 1048576 programs.
-/
import Derived.Test.YtlmdojofjdfeeaaDoorClY
import Derived.Test.YtlmdojofjdfeeaaDoorInts
import Derived.Deep.AppendLies
namespace Go.Proofs.YtlmdojofjdfeeaaDoor
open Go.ChangeShapes Go.WideShapes Go.ChangeAt Go.RowKit

/-- The programs of the first k by which a cloth does not felt. -/
def genTo (f h : Int) (ps : List Pg) : Nat → List Int
  | 0 => []
  | k + 1 => if fel f h (pat ps k).1 (pat ps k).2.1 = 0 then genTo f h ps k ++ [(k : Int)] else genTo f h ps k
theorem genTo_length (f h : Int) (ps : List Pg) : ∀ k, (genTo f h ps k).length ≤ k
  | 0 => Nat.le_refl _
  | k + 1 => by
    have := genTo_length f h ps k
    rw [genTo]
    split
    · rw [List.length_append]; simp; omega
    · omega
theorem genTo_yes {f h : Int} {ps : List Pg} {k : Nat} (e : fel f h (pat ps k).1 (pat ps k).2.1 = 0) : genTo f h ps (k + 1) = genTo f h ps k ++ [(k : Int)] := by rw [genTo, if_pos e]
theorem genTo_no {f h : Int} {ps : List Pg} {k : Nat} (e : ¬ fel f h (pat ps k).1 (pat ps k).2.1 = 0) : genTo f h ps (k + 1) = genTo f h ps k := by rw [genTo, if_neg e]
theorem CBox.grown {w w' : World} {b : Nat} {x y d f h : Int} {row : Option Nat} (H : CBox w b x y d f h) (hg : w.grownBy w' row) (hne : some b ≠ row) : CBox w' b x y d f h := by
  have hlt := World.block_lt_of_cell? w _ H.1
  exact ⟨(hg.cell_far ⟨b, 0, none⟩ hlt hne).trans H.1, (hg.cell_far ⟨b, 1, none⟩ hlt hne).trans H.2.1, (hg.cell_far ⟨b, 2, none⟩ hlt hne).trans H.2.2.1, (hg.cell_far ⟨b, 3, none⟩ hlt hne).trans H.2.2.2.1, (hg.cell_far ⟨b, 4, none⟩ hlt hne).trans H.2.2.2.2⟩
theorem grown_alG {w w' : World} {o : Obj} {row : Option Nat} (h : (w.alloc o).grownBy w' row) : w.grownBy w' row :=
  ⟨h.os, h.tape, h.output, Nat.le_trans (by simp) h.size, fun i hi hne => (h.block i (by simp; omega) hne).trans (Below.heap_alloc w o i hi)⟩
theorem one_oneG (a : Int) : ∀ u ∈ [Value.int .i64 a], u.oneCell' = true := by intro u hu; simp at hu; subst hu; rfl
theorem row_ne {w : World} {B n : Nat} {e : TypeId} {v : Value} {xs : List Value} (h : w.ownsRow (B + 1) e 1 v n xs) : some B ≠ v.ownBlock := by
  intro e
  have := (h.lt B e.symm).1
  omega
def genF (x y d f h : Int) (ps : List Pg) : List Int × Int := if askF x y d f h ps = 0 then (genTo f h ps ps.length, 0) else ([], askF x y d f h ps)
theorem genF_yes {x y d f h : Int} {ps : List Pg} (e : askF x y d f h ps = 0) : genF x y d f h ps = (genTo f h ps ps.length, 0) := if_pos e
theorem genF_no {x y d f h : Int} {ps : List Pg} (e : ¬ askF x y d f h ps = 0) : genF x y d f h ps = ([], askF x y d f h ps) := if_neg e
theorem genF_len {x y d f h : Int} {ps : List Pg} (hn : ps.length ≤ 1048576) : (genF x y d f h ps).1.length ≤ 2097152 := by
  unfold genF
  split
  · have := genTo_length f h ps ps.length
    show (genTo f h ps ps.length).length ≤ _
    omega
  · simp
theorem info64' : (Tryd.prog.info? 2).map (fun i => (i.zero, i.size, i.bytes)) = some (some (.int .i64 0), 1, 8) := by kernel_rfl

set_option maxRecDepth 100000 in
set_option maxHeartbeats 4000000 in
theorem specGentle_any (x y d f h : Int) (v : Value) (ps : List Pg) (w : World) (hx : IsS x) (hy : IsS y) (hd : Is8 d) (hf : Is8 f) (hh : Is8 h) (hP : Progs w v ps) (hn : ps.length ≤ 1048576) :
    Calls Tryd.prog 30 #[.agg #[.int .i16 x, .int .i16 y, .int .i8 d, .int .i8 f, .int .i8 h], v] w fun e w' => ∃ r, e = .returned (.tuple #[r, .int .i64 (genF x y d f h ps).2]) ∧ Own w' w.heap.size r (genF x y d f h ps).1 ∧ Below w.heap.size w w' := by
  obtain ⟨i0, hi, hz0, hz1, hz2⟩ := info_parts info64'
  obtain ⟨B, hBe⟩ : ∃ B, B = w.heap.size := ⟨_, rfl⟩
  have HB := Lib.hid hBe
  have K0 := Lib.hid (cbox_made w 27 x y d f h)
  have P0 := Lib.hid (hP.below ((Below.refl _ _).alloc (Nat.le_refl _) (.cells #[.int .i16 x, .int .i16 y, .int .i8 d, .int .i8 f, .int .i8 h] 27)))
  have HA := Lib.hid (l06Asked_any w.heap.size x y d f h v ps _ hx hy hd hf hh K0.out P0.out hn)
  have S0 : Hid (((w.alloc (.cells #[.int .i16 x, .int .i16 y, .int .i8 d, .int .i8 f, .int .i8 h] 27)).alloc (.cells #[] 2)).ownsRow (B + 1) 2 1 (.slice (some ⟨w.heap.size + 1, 0, none⟩) 0 0) 0 ([] : List Value)) := Lib.hid (by
    have := World.ownsRow_made (base := B + 1) (e := 2) (size := 1) (w.alloc (.cells #[.int .i16 x, .int .i16 y, .int .i8 d, .int .i8 f, .int .i8 h] 27)) #[] 0 (by simp only [World.size_alloc]; omega) (by decide) rfl
    simpa only [World.size_alloc] using this)
  have B0 : Hid (Below B w ((w.alloc (.cells #[.int .i16 x, .int .i16 y, .int .i8 d, .int .i8 f, .int .i8 h] 27)).alloc (.cells #[] 2))) := Lib.hid (by rw [hBe]; go_grown)
  clear hx hy hd hf hh
  by_cases h0 : askF x y d f h ps = 0
  · rw [genF_yes h0]
    obtain ⟨hokc, hokp, hlen⟩ := askF_zero h0
    obtain ⟨gx, gy, gd, gf, gh⟩ := okC_of hokc
    have OKP := Lib.hid fun (k : Nat) (hk : k < ps.length) => okP_of (allP_get hokp hk)
    have UY := Lib.hid fun (k : Nat) e => genTo_yes (f := f) (h := h) (ps := ps) (k := k) e
    have UN := Lib.hid fun (k : Nat) e => genTo_no (f := f) (h := h) (ps := ps) (k := k) e
    have UL := Lib.hid fun (k : Nat) => genTo_length f h ps k
    rw [h0] at HA
    clear h0 hokp hokc
    have HBX := Lib.hid (show ∀ k, k < ps.length → ∃ b off, (∃ c, v = .slice (some ⟨b, off, none⟩) ps.length c) ∧ PBox w b (off + k * 3) (pat ps k).1 (pat ps k).2.1 (pat ps k).2.2 from fun k hk => by
      obtain ⟨b', off', cap', hv, _, hc⟩ := hP.pos (by omega)
      exact ⟨_, _, ⟨_, hv⟩, hc k hk⟩)
    obtain ⟨a0, c0, rfl⟩ := hP.len
    obtain ⟨n, hnn⟩ : ∃ n, ps.length = n := ⟨_, rfl⟩
    rw [hnn] at OKP HBX HA hn hlen ⊢
    clear hP P0 hnn
    rw [← hBe] at K0 ⊢
    clear hBe
    go_enter Tryd.func30, Tryd.ntmps30
    go_wp2_with fail
    refine HA.out.mono ?_
    rintro e w' ⟨rfl, rfl⟩
    go_wp2_with fail
    go_loopw [7, 8] (fun v i wr => ∃ (k : Nat) (u : Value), k ≤ n ∧ i = .int .i64 k ∧ u = v ∧ Hid (wr.ownsRow (B + 1) 2 1 v (genTo f h ps k).length ((genTo f h ps k).map (Value.int .i64))) ∧ Hid (Below B w wr) ∧ Hid (CBox wr B x y d f h)) (fun _ i _ => n - (intOf i).toNat)
    case atStart => exact ⟨0, _, Nat.zero_le _, rfl, rfl, S0, B0, Lib.hid (K0.out.below ((Below.refl _ _).alloc (Nat.le_refl _) _))⟩
    case round =>
      clear S0 B0
      obtain ⟨k, v, hk, rfl, rfl, hO, hE, hC⟩ := hrel
      have hE' : Hid (Below w.heap.size w wr) := Lib.hid (by rw [← HB.out]; exact hE.out)
      by_cases hlt : k < n
      · obtain ⟨b', off', ⟨c', hv⟩, hbx⟩ := HBX.out k hlt
        cases hv
        obtain ⟨g1, g2, g3⟩ := OKP.out k hlt
        have HF := Lib.hid (l06Felts_any w.heap.size b' (off' + k * 3) x y d f h (pat ps k).1 (pat ps k).2.1 (pat ps k).2.2 wr gf gh g1 g2 (by rw [← HB.out]; exact hC.out) (hbx.below hE'.out))
        have u1 := UL.out k
        have u2 := Lib.hid (UY.out k)
        have u3 := Lib.hid (UN.out k)
        generalize fel f h (pat ps k).1 (pat ps k).2.1 = z at *
        clear hbx g1 g2 g3
        by_cases hz : z = 0
        · have HU := Lib.hid (u2.out hz)
          clear u2 u3
          subst hz
          go_wp2_with fail
          refine HF.out.mono ?_
          rintro e w1 ⟨rfl, nn, hw1⟩
          have O1 : Hid (w1.ownsRow (B + 1) 2 1 v (genTo f h ps k).length ((genTo f h ps k).map (Value.int .i64))) := Lib.hid (by rw [hw1]; exact hO.out)
          have E1 : Hid (Below B w w1) := Lib.hid (by rw [hw1]; exact below_drewN hE.out _)
          have C1 : Hid (CBox w1 B x y d f h) := Lib.hid (by rw [hw1]; exact hC.out)
          have hszB : B ≤ w1.heap.size := by have := E1.out.size; rw [HB.out]; exact this
          have hBlt : Hid (B < w1.heap.size) := Lib.hid (World.block_lt_of_cell? w1 _ C1.out.1)
          clear hw1 hO hE hC hE'
          go_wp2_with (first
            | (at_builtin; refine wpList_append_lies _ rfl _ _ _ rfl (B + 1) 2 i0 (.int .i64 0) 1 8 Tryd.underlying46 hi hz0 hz1 hz2 rfl (by omega) v (genTo f h ps k).length _ rfl (O1.out.alloc _) ⟨w1.heap.size, 0, none⟩ 1 1 _ rfl rfl (World.news_of_block (heap_alloc_new w1 _)) (one_oneG _) (by omega) (by unfold maxLen; omega) (by omega) (by simp; omega) (w1.heap.size + 1) (by simp) ?_; intro gg cap w2 hown1 hgrow hat hlt2)
            | go_in)
          have hgr := grown_alG hgrow
          have hE2 := Lib.hid (E1.out.grown hgr hszB (fun j hj => by have := (O1.out.lt j hj).1; omega))
          have C2 := Lib.hid (C1.out.grown hgr (row_ne O1.out))
          have HO2 : Hid (w2.ownsRow (B + 1) 2 1 (.slice (some ⟨gg, 0, none⟩) ((genTo f h ps k).length + 1) cap) (genTo f h ps (k + 1)).length ((genTo f h ps (k + 1)).map (Value.int .i64))) := Lib.hid (by
            rw [HU.out, List.map_append, List.length_append]
            exact hown1)
          clear hgr hgrow hown1 hat hlt2
          go_roundw
          case rel => exact ⟨k + 1, _, by omega, by go_num, rfl, HO2, hE2, C2⟩
          case measure => simp [intOf]; omega
        · have HU := Lib.hid (u3.out hz)
          have hz' : (z == 0) = false := by simp [hz]
          clear u2 u3
          go_wp2_with fail
          refine HF.out.mono ?_
          rintro e w1 ⟨rfl, nn, hw1⟩
          have O1 : Hid (w1.ownsRow (B + 1) 2 1 v (genTo f h ps (k + 1)).length ((genTo f h ps (k + 1)).map (Value.int .i64))) := Lib.hid (by rw [hw1, HU.out]; exact hO.out)
          have E1 : Hid (Below B w w1) := Lib.hid (by rw [hw1]; exact below_drewN hE.out _)
          have C1 : Hid (CBox w1 B x y d f h) := Lib.hid (by rw [hw1]; exact hC.out)
          clear hw1 hO hE hC hE'
          go_wp2_with fail
          go_roundw
          case rel => exact ⟨k + 1, _, by omega, by go_num, rfl, O1, E1, C1⟩
          case measure => simp [intOf]; omega
      · have hkn : k = n := by omega
        subst hkn
        go_wp2_with fail
        go_ret2
        exact ⟨_, rfl, Own.mono (base := B + 1) hO.out (by omega), hE.out⟩
  · rw [genF_no h0]
    obtain ⟨a0, c0, rfl⟩ := hP.len
    have hAb : (askF x y d f h ps != 0) = true := by simp [h0]
    generalize askF x y d f h ps = A at *
    rw [← hBe] at K0 ⊢
    clear hBe hP P0 h0
    go_enter Tryd.func30, Tryd.ntmps30
    go_wp2_with fail
    refine HA.out.mono ?_
    rintro e w' ⟨rfl, rfl⟩
    go_wp2
    go_ret2
    exact ⟨_, rfl, Own.mono (base := B + 1) S0.out (by omega), B0.out⟩

theorem withDirt_any (x y d f h e0 : Int) (w : World) :
    Calls Tryd.prog 49 #[.agg #[.int .i16 x, .int .i16 y, .int .i8 d, .int .i8 f, .int .i8 h], .int .i8 e0] w fun e w' => e = .returned (.agg #[.int .i16 x, .int .i16 y, .int .i8 e0, .int .i8 f, .int .i8 h]) ∧ Below w.heap.size w w' := by
  go_enter Tryd.func49, Tryd.ntmps49
  go_wp2
  go_returns
  exact ⟨rfl, by go_grown⟩
theorem eqCl_in (x y d f h x' y' d' f' h' : Int) (w : World) : (Op.equalIn 10000 27 (.agg #[.int .i16 x, .int .i16 y, .int .i8 d, .int .i8 f, .int .i8 h]) (.agg #[.int .i16 x', .int .i16 y', .int .i8 d', .int .i8 f', .int .i8 h'])).run Tryd.prog w = .ok (decide ((x, y, d, f, h) = (x', y', d', f', h'))) w := by
  have hu : Tryd.prog.underlying 27 = some (.struct (Tryd.prog.fieldsOf 27)) := by kernel_rfl
  have hp : Tryd.prog.stoodInHeld 27 = false := by kernel_rfl
  rw [run_equalIn_struct w 9999 _ _ _ hu hp]
  by_cases h1 : x = x'
  · by_cases h2 : y = y'
    · by_cases h3 : d = d'
      · by_cases h4 : f = f'
        · by_cases h5 : h = h'
          · subst h1 h2 h3 h4 h5
            simp [go_sem]
          · simp [go_sem, h1, h2, h3, h4, h5]
        · simp [go_sem, h1, h2, h3, h4]
      · simp [go_sem, h1, h2, h3]
    · simp [go_sem, h1, h2]
  · simp [go_sem, h1]
theorem shr_zero {s : Int} (h : 1 ≤ s) : shr s 0 = s := by unfold shr; omega

/-- A round's boxes: the cloth's and the program's; W is the world behind the round's first steps. -/
def GB (w W w' : World) (P9 : Nat) (x y d f h t r c : Int) : Prop := w'.cell? ⟨w.heap.size, 0, none⟩ = some (.int .i16 x) ∧ w'.cell? ⟨w.heap.size, 1, none⟩ = some (.int .i16 y) ∧ w'.cell? ⟨w.heap.size, 2, none⟩ = some (.int .i8 d) ∧ w'.cell? ⟨w.heap.size, 3, none⟩ = some (.int .i8 f) ∧ w'.cell? ⟨w.heap.size, 4, none⟩ = some (.int .i8 h) ∧ w'.cell? ⟨P9, 0, none⟩ = some (.int .i8 t) ∧ w'.cell? ⟨P9, 1, none⟩ = some (.int .i8 r) ∧ w'.cell? ⟨P9, 2, none⟩ = some (.int .i8 c) ∧ Below W.heap.size W w'
theorem GB.id {w W w' : World} {P9 : Nat} {x y d f h t r c : Int} (H : w'.cell? ⟨w.heap.size, 0, none⟩ = some (.int .i16 x) ∧ w'.cell? ⟨w.heap.size, 1, none⟩ = some (.int .i16 y) ∧ w'.cell? ⟨w.heap.size, 2, none⟩ = some (.int .i8 d) ∧ w'.cell? ⟨w.heap.size, 3, none⟩ = some (.int .i8 f) ∧ w'.cell? ⟨w.heap.size, 4, none⟩ = some (.int .i8 h) ∧ w'.cell? ⟨P9, 0, none⟩ = some (.int .i8 t) ∧ w'.cell? ⟨P9, 1, none⟩ = some (.int .i8 r) ∧ w'.cell? ⟨P9, 2, none⟩ = some (.int .i8 c) ∧ Below W.heap.size W w') : GB w W w' P9 x y d f h t r c := H
theorem GB.next {w W w1 w2 : World} {P9 : Nat} {x y d f h t r c : Int} (H : GB w W w1 P9 x y d f h t r c) (hB : Below w1.heap.size w1 w2) : GB w W w2 P9 x y d f h t r c := by
  obtain ⟨a1, a2, a3, a4, a5, a6, a7, a8, z⟩ := H
  have k : ∀ {b o : Nat} {v : Value}, w1.cell? ⟨b, o, none⟩ = some v → w2.cell? ⟨b, o, none⟩ = some v := fun hc => kept hB (World.block_lt_of_cell? w1 _ hc) hc
  exact ⟨k a1, k a2, k a3, k a4, k a5, k a6, k a7, k a8, z.trans (hB.mono z.size)⟩
theorem GB.bel {w W w' : World} {P9 : Nat} {x y d f h t r c : Int} (H : GB w W w' P9 x y d f h t r c) : Below W.heap.size W w' := H.2.2.2.2.2.2.2.2

set_option maxRecDepth 100000 in
set_option maxHeartbeats 8000000 in
theorem implGentle_any (p : Nat → Addr) (x y d f h : Int) (v : Value) (ps : List Pg) (w : World) (hs : Sent7 w p) (hx : IsS x) (hy : IsS y) (hd : Is8 d) (hf : Is8 f) (hh : Is8 h) (hP : Progs w v ps) (hn : ps.length ≤ 1048576) :
    Calls Tryd.prog 31 #[.agg #[.int .i16 x, .int .i16 y, .int .i8 d, .int .i8 f, .int .i8 h], v] w fun e w' => ∃ r, e = .returned (.tuple #[r, .int .i64 (genF x y d f h ps).2]) ∧ Own w' w.heap.size r (genF x y d f h ps).1 ∧ Below w.heap.size w w' := by
  have HS := Lib.hid hs
  obtain ⟨i0, hi, hz0, hz1, hz2⟩ := info_parts info64
  have K0 := Lib.hid (cbox_made w 27 x y d f h)
  have B0 : Hid (Below w.heap.size w (w.alloc (.cells #[.int .i16 x, .int .i16 y, .int .i8 d, .int .i8 f, .int .i8 h] 27))) := Lib.hid (by go_grown)
  have P0 := Lib.hid (hP.below ((Below.refl _ _).alloc (Nat.le_refl _) (.cells #[.int .i16 x, .int .i16 y, .int .i8 d, .int .i8 f, .int .i8 h] 27)))
  have HA := Lib.hid (checkWashes_any p x y d f h v ps (w.alloc (.cells #[.int .i16 x, .int .i16 y, .int .i8 d, .int .i8 f, .int .i8 h] 27)) (hs.three.below B0.out) hx hy hd hf hh P0.out hn)
  have q1 := neqNil_unfit
  have q2 := neqNil_nil
  have q3 := neqNil_over
  clear hx hy hd hf hh hs
  by_cases h0 : askF x y d f h ps = 0
  · rw [genF_yes h0]
    obtain ⟨hokc, hokp, hlen⟩ := askF_zero h0
    obtain ⟨gx, gy, gd, gf, gh⟩ := okC_of hokc
    have OKP := Lib.hid fun (k : Nat) (hk : k < ps.length) => okP_of (allP_get hokp hk)
    have UY := Lib.hid fun (k : Nat) e => genTo_yes (f := f) (h := h) (ps := ps) (k := k) e
    have UN := Lib.hid fun (k : Nat) e => genTo_no (f := f) (h := h) (ps := ps) (k := k) e
    have UL := Lib.hid fun (k : Nat) => genTo_length f h ps k
    rw [h0, refV_0] at HA
    have h6 : ps.length ≤ 6 := hlen
    clear h0 hokp hokc
    have HBX := Lib.hid (show ∀ k, k < ps.length → ∃ b off, (∃ c, v = .slice (some ⟨b, off, none⟩) ps.length c) ∧ PBox w b (off + k * 3) (pat ps k).1 (pat ps k).2.1 (pat ps k).2.2 from fun k hk => by
      obtain ⟨b', off', cap', hv, _, hc⟩ := hP.pos (by omega)
      exact ⟨_, _, ⟨_, hv⟩, hc k hk⟩)
    obtain ⟨a0, c0, rfl⟩ := hP.len
    obtain ⟨n, hnn⟩ : ∃ n, ps.length = n := ⟨_, rfl⟩
    rw [hnn] at OKP HBX HA hn hlen h6 ⊢
    clear hP P0 hnn
    go_enter Tryd.func31, Tryd.ntmps31
    go_wp2_with fail
    refine HA.out.mono ?_
    rintro e w1 ⟨rfl, hB⟩
    have E0 := Lib.hid (B0.out.trans (hB.mono B0.out.size))
    have C0 := Lib.hid (K0.out.below hB)
    have S0 : Hid (w1.ownsRow (w.heap.size + 1) 2 1 (.slice none 0 0) (genTo f h ps 0).length ((genTo f h ps 0).map (Value.int .i64))) := Lib.hid (World.ownsRow_nil _ _ _ _)
    clear hB
    go_wp2_with fail
    go_loopw [7, 19] (fun v i wr => ∃ (k : Nat) (u : Value), k ≤ n ∧ i = .int .i64 k ∧ u = v ∧ Hid (wr.ownsRow (w.heap.size + 1) 2 1 v (genTo f h ps k).length ((genTo f h ps k).map (Value.int .i64))) ∧ Hid (Below w.heap.size w wr) ∧ Hid (CBox wr w.heap.size x y d f h)) (fun _ i _ => n - (intOf i).toNat)
    case atStart => exact ⟨0, _, Nat.zero_le _, rfl, rfl, S0, E0, C0⟩
    case round =>
      clear S0 E0 C0 K0 B0
      obtain ⟨k, v, hk, rfl, rfl, hO, hE, hC⟩ := hrel
      by_cases hlt : k < n
      · obtain ⟨b', off', ⟨c', hv⟩, hbx⟩ := HBX.out k hlt
        cases hv
        obtain ⟨g1, g2, g3⟩ := OKP.out k hlt
        obtain ⟨gk1, gk2⟩ := fel_bd (f := f) (h := h) (t := (pat ps k).1) (r := (pat ps k).2.1) gf g2
        have HW := Lib.hid fun wx => washed_any x y d f h (pat ps k).1 (pat ps k).2.1 (pat ps k).2.2 wx gx gy gd gf gh g1 g2 g3
        have u1 := UL.out k
        have u2 := Lib.hid (UY.out k)
        have u3 := Lib.hid (UN.out k)
        obtain ⟨d0, d1, d2⟩ := hbx.below hE.out
        generalize fel f h (pat ps k).1 (pat ps k).2.1 = z at *
        generalize (pat ps k).1 = t at *
        generalize (pat ps k).2.1 = r at *
        generalize (pat ps k).2.2 = c at *
        have X0' : GB w (wr.alloc (.cells #[.int .i8 t, .int .i8 r, .int .i8 c] 33)) (wr.alloc (.cells #[.int .i8 t, .int .i8 r, .int .i8 c] 33)) wr.heap.size x y d f h t r c := by
          have hC' := hC.out.below ((Below.refl _ _).alloc (Nat.le_refl _) (.cells #[.int .i8 t, .int .i8 r, .int .i8 c] 33))
          exact ⟨hC'.1, hC'.2.1, hC'.2.2.1, hC'.2.2.2.1, hC'.2.2.2.2, by simp [go_sem], by simp [go_sem], by simp [go_sem], Below.refl _ _⟩
        have X0 := Lib.hid X0'
        have E1 := Lib.hid (hE.out.alloc hE.out.size (.cells #[.int .i8 t, .int .i8 r, .int .i8 c] 33))
        have O1 := Lib.hid (World.ownsRow.alloc hO.out (.cells #[.int .i8 t, .int .i8 r, .int .i8 c] 33))
        clear hbx g1 g2 g3 X0'
        by_cases hz : z = 0
        · have HU := Lib.hid (u2.out hz)
          subst hz
          rw [shr_zero gx.1, shr_zero gy.1, Int.add_zero] at HW
          generalize max 0 (d - c) = m0 at *
          have HD := Lib.hid fun wx => withDirt_any x y m0 f h d wx
          have q4 : ∀ wx, (Op.equalIn 10000 27 (.agg #[.int .i16 x, .int .i16 y, .int .i8 d, .int .i8 f, .int .i8 h]) (.agg #[.int .i16 x, .int .i16 y, .int .i8 d, .int .i8 f, .int .i8 h])).run Tryd.prog wx = .ok true wx := fun wx => by rw [eqCl_in]; simp
          clear u2 u3 hO hE hC gk1 gk2
          obtain ⟨W1, hW1⟩ : ∃ W1, W1 = wr.alloc (.cells #[.int .i8 t, .int .i8 r, .int .i8 c] 33) := ⟨_, rfl⟩
          rw [← hW1] at X0 E1 O1
          have HW1 := Lib.hid hW1
          clear hW1
          go_wp2_with fail
          rw [← HW1.out]
          go_region_held3 (fun w' => w'.cell? ⟨w.heap.size, 0, none⟩ = some (.int .i16 x) ∧ w'.cell? ⟨w.heap.size, 1, none⟩ = some (.int .i16 y) ∧ w'.cell? ⟨w.heap.size, 2, none⟩ = some (.int .i8 d) ∧ w'.cell? ⟨w.heap.size, 3, none⟩ = some (.int .i8 f) ∧ w'.cell? ⟨w.heap.size, 4, none⟩ = some (.int .i8 h) ∧ w'.cell? ⟨wr.heap.size, 0, none⟩ = some (.int .i8 t) ∧ w'.cell? ⟨wr.heap.size, 1, none⟩ = some (.int .i8 r) ∧ w'.cell? ⟨wr.heap.size, 2, none⟩ = some (.int .i8 c) ∧ Below W1.heap.size W1 w')
            (first | assumption | exact X0.out | exact X0.out.next ((Below.refl _ _).drew) | (refine GB.next ?_ hB; assumption))
            (first | (go_at_call 44; refine (HW.out _).mono ?_; rintro e w' ⟨rfl, hB⟩) | (go_at_call 49; refine (HD.out _).mono ?_; rintro e w' ⟨rfl, hB⟩))
          have X1 := Lib.hid (GB.id (w := w) (W := W1) (w' := w') (P9 := wr.heap.size) (x := x) (y := y) (d := d) (f := f) (h := h) (t := t) (r := r) (c := c) (by assumption))
          have O2 := Lib.hid (Own.below (zs := genTo f h ps k) O1.out X1.out.bel)
          have E2 := Lib.hid (E1.out.trans (X1.out.bel.mono E1.out.size))
          have C2 : Hid (CBox w' w.heap.size x y d f h) := Lib.hid ⟨X1.out.1, X1.out.2.1, X1.out.2.2.1, X1.out.2.2.2.1, X1.out.2.2.2.2.1⟩
          have hlt3 : Hid (w.heap.size < w'.heap.size) := Lib.hid (World.block_lt_of_cell? w' _ C2.out.1)
          clear X0 X1 E1 O1 HW HD d0 d1 d2 HW1 q4
          go_wp2_with (first
            | (at_builtin; refine wpList_append_lies _ rfl _ _ _ rfl (w.heap.size + 1) 2 i0 (.int .i64 0) 1 8 Tryd.underlying46 hi hz0 hz1 hz2 rfl (by omega) v (genTo f h ps k).length _ rfl (World.ownsRow.alloc O2.out _) ⟨w'.heap.size, 0, none⟩ 1 1 _ rfl rfl (World.news_of_block (heap_alloc_new w' _)) (one_oneG _) (by omega) (by unfold maxLen; omega) (by omega) (by simp; have := hlt3.out; omega) (w'.heap.size + 1) (by simp) ?_; intro gg cap w3 hown1 hgrow hat hlt2)
            | go_in)
          have hgr := grown_alG hgrow
          have hE2 := Lib.hid (E2.out.grown hgr E2.out.size (fun j hj => by have := (O2.out.lt j hj).1; omega))
          have C3 := Lib.hid (C2.out.grown hgr (row_ne O2.out))
          have HO2 : Hid (w3.ownsRow (w.heap.size + 1) 2 1 (.slice (some ⟨gg, 0, none⟩) ((genTo f h ps k).length + 1) cap) (genTo f h ps (k + 1)).length ((genTo f h ps (k + 1)).map (Value.int .i64))) := Lib.hid (by
            rw [HU.out, List.map_append, List.length_append]
            exact hown1)
          clear hgr hgrow hown1 hat hlt2
          go_roundw
          case rel => exact ⟨k + 1, _, by omega, by go_num, rfl, HO2, hE2, C3⟩
          case measure => simp [intOf]; omega
        · have HU := Lib.hid (u3.out hz)
          generalize shr x z = m1 at *
          generalize shr y z = m2 at *
          generalize max 0 (d - c) = m0 at *
          obtain ⟨fz, hfz⟩ : ∃ fz, f + z = fz := ⟨_, rfl⟩
          rw [hfz] at HW
          have HD := Lib.hid fun wx => withDirt_any m1 m2 m0 fz h d wx
          have q4 : ∀ wx, (Op.equalIn 10000 27 (.agg #[.int .i16 m1, .int .i16 m2, .int .i8 d, .int .i8 fz, .int .i8 h]) (.agg #[.int .i16 x, .int .i16 y, .int .i8 d, .int .i8 f, .int .i8 h])).run Tryd.prog wx = .ok false wx := fun wx => by
            have hne : ¬ fz = f := by omega
            rw [eqCl_in]
            simp [hne]
          clear u2 u3 hO hE hC gk1 gk2 hfz
          obtain ⟨W1, hW1⟩ : ∃ W1, W1 = wr.alloc (.cells #[.int .i8 t, .int .i8 r, .int .i8 c] 33) := ⟨_, rfl⟩
          rw [← hW1] at X0 E1 O1
          have HW1 := Lib.hid hW1
          clear hW1
          go_wp2_with fail
          rw [← HW1.out]
          go_region_held3 (fun w' => w'.cell? ⟨w.heap.size, 0, none⟩ = some (.int .i16 x) ∧ w'.cell? ⟨w.heap.size, 1, none⟩ = some (.int .i16 y) ∧ w'.cell? ⟨w.heap.size, 2, none⟩ = some (.int .i8 d) ∧ w'.cell? ⟨w.heap.size, 3, none⟩ = some (.int .i8 f) ∧ w'.cell? ⟨w.heap.size, 4, none⟩ = some (.int .i8 h) ∧ w'.cell? ⟨wr.heap.size, 0, none⟩ = some (.int .i8 t) ∧ w'.cell? ⟨wr.heap.size, 1, none⟩ = some (.int .i8 r) ∧ w'.cell? ⟨wr.heap.size, 2, none⟩ = some (.int .i8 c) ∧ Below W1.heap.size W1 w')
            (first | assumption | exact X0.out | exact X0.out.next ((Below.refl _ _).drew) | (refine GB.next ?_ hB; assumption))
            (first | (go_at_call 44; refine (HW.out _).mono ?_; rintro e w' ⟨rfl, hB⟩) | (go_at_call 49; refine (HD.out _).mono ?_; rintro e w' ⟨rfl, hB⟩))
          have X1 := Lib.hid (GB.id (w := w) (W := W1) (w' := w') (P9 := wr.heap.size) (x := x) (y := y) (d := d) (f := f) (h := h) (t := t) (r := r) (c := c) (by assumption))
          have O2 : Hid (w'.ownsRow (w.heap.size + 1) 2 1 v (genTo f h ps (k + 1)).length ((genTo f h ps (k + 1)).map (Value.int .i64))) := Lib.hid (by
            rw [HU.out]
            exact Own.below (zs := genTo f h ps k) O1.out X1.out.bel)
          have E2 := Lib.hid (E1.out.trans (X1.out.bel.mono E1.out.size))
          have C2 : Hid (CBox w' w.heap.size x y d f h) := Lib.hid ⟨X1.out.1, X1.out.2.1, X1.out.2.2.1, X1.out.2.2.2.1, X1.out.2.2.2.2.1⟩
          clear X0 X1 E1 O1 HW HD d0 d1 d2 HW1 q4
          go_wp2_with fail
          go_roundw
          case rel => exact ⟨k + 1, _, by omega, by go_num, rfl, O2, E2, C2⟩
          case measure => simp [intOf]; omega
      · have hkn : k = n := by omega
        subst hkn
        go_wp2_with fail
        go_ret2
        exact ⟨_, rfl, Own.mono (base := w.heap.size + 1) hO.out (by omega), hE.out⟩
  · rw [genF_no h0]
    obtain ⟨a0, c0, rfl⟩ := hP.len
    clear hP P0 K0
    have hA := askF_or x y d f h ps
    generalize askF x y d f h ps = A at *
    rcases hA with rfl | rfl | rfl
    · exact absurd rfl h0
    · rw [refV_1] at HA
      clear h0
      go_enter Tryd.func31, Tryd.ntmps31
      go_wp2_with fail
      refine HA.out.mono ?_
      rintro e w1 ⟨rfl, hB⟩
      have B1 := Lib.hid (B0.out.trans (hB.mono B0.out.size))
      clear hB
      go_wp2_with fail
      refine (refusal_unfit p _ (HS.out.below B1.out)).mono ?_
      rintro e w2 ⟨rfl, hB⟩
      have B2 := Lib.hid (B1.out.trans (hB.mono B1.out.size))
      clear hB
      go_wp2
      go_ret2
      exact ⟨_, rfl, World.ownsRow_nil _ _ _ _, B2.out⟩
    · rw [refV_3] at HA
      clear h0
      go_enter Tryd.func31, Tryd.ntmps31
      go_wp2_with fail
      refine HA.out.mono ?_
      rintro e w1 ⟨rfl, hB⟩
      have B1 := Lib.hid (B0.out.trans (hB.mono B0.out.size))
      clear hB
      go_wp2_with fail
      refine (refusal_overfull p 6 _ (HS.out.below B1.out)).mono ?_
      rintro e w2 ⟨rfl, hB⟩
      have B2 := Lib.hid (B1.out.trans (hB.mono B1.out.size))
      clear hB
      go_wp2
      go_ret2
      exact ⟨_, rfl, World.ownsRow_nil _ _ _ _, B2.out⟩
end Go.Proofs.YtlmdojofjdfeeaaDoor
