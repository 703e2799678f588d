/-
  No statement is proved here: the webs that the laws draw from bytes; condition: at most 3000 bytes.
-/
import Derived.Test.YtpnfombolnaldaaGreatDoorSrc
import Derived.Test.YtpnfombolnaldaaGreatDoorOut
namespace Go.Proofs.YtpnfombolnaldaaGreatDoor
open Go.ChangeShapes Go.WideShapes Go.ChangeAt Go.RowKit

attribute [local go_sem ↓] Go.wp_at_zero Go.wp_at_succ

/-- The source's block lies apart from the bytes'. -/
def Apart (v : Value) (S : Nat) : Prop := ∀ b o s c m, v = .slice (some ⟨b, o, s⟩) m c → 0 < m → b ≠ S

theorem Src.far {w w' : World} {S K : Nat} {v : Value} {row : Option Nat} (h : Src w S v K) (hg : w.grownBy w' row) (hne : row ≠ some S) : Src w' S v K := by
  obtain ⟨a, s, ha, s0, s1, s2, sf⟩ := h
  have hS := World.block_lt_of_cell? w _ s0
  have hb : w'.heap[S]? = w.heap[S]? := hg.block S hS (fun e => hne e.symm)
  exact ⟨a, s, ha, (World.cell?_of_block (w := w) (a := ⟨S, 0, none⟩) hb).trans s0, (World.cell?_of_block (w := w) (a := ⟨S, 1, none⟩) hb).trans s1, (World.cell?_of_block (w := w) (a := ⟨S, 2, none⟩) hb).trans s2, fun o => (World.frozen?_of_block (w := w) (a := ⟨S, o, none⟩) hb).trans (sf o)⟩
theorem grown_far {w a b : World} {S : Nat} {row : Option Nat} (G : w.grownBy a (some S)) (hg : a.grownBy b row) (hrow : ∀ k, row = some k → w.heap.size ≤ k) : w.grownBy b (some S) :=
  ⟨hg.os.trans G.os, hg.tape.trans G.tape, hg.output.trans G.output, Nat.le_trans G.size hg.size, fun k hk hne => (hg.block k (Nat.lt_of_lt_of_le hk G.size) (fun e => by have := hrow k e.symm; omega)).trans (G.block k hk hne)⟩
theorem Bytes.far {w w' : World} {v : Value} {bs : List Int} {B : Nat} {row : Option Nat} (h : Bytes w v bs) (hB : ∀ b o s c m, v = .slice (some ⟨b, o, s⟩) m c → 0 < m → b < B) (hg : w.grownBy w' row) (hrow : ∀ k, row = some k → B ≤ k) : Bytes w' v bs := by
  rcases h with h | ⟨b, off, cap, rfl, h0, hb, hc⟩
  · exact .inl h
  · have hlt := hB b off none cap bs.length rfl h0
    have hbk : w'.heap[b]? = w.heap[b]? := hg.block b hb fun e => by have := hrow b e.symm; omega
    exact .inr ⟨b, off, cap, rfl, h0, Nat.lt_of_lt_of_le hb hg.size, fun j hj => ⟨(World.cell?_of_block (w := w) (a := ⟨b, off + j, none⟩) hbk).trans (hc j hj).1, (hc j hj).2⟩⟩

set_option maxRecDepth 100000 in
set_option maxHeartbeats 2000000 in
theorem one_any (v : Value) (bs : List Int) (S K : Nat) (n : Int) (w : World) (hs : Src w S v K) (hb : Bytes w v bs) (hbS : Apart v S) (hn : bs.length ≤ 3000) (hK : K + 2 ≤ 1000000) (h0 : 0 ≤ n) (h1 : n ≤ 1000000) :
    Calls Tryz.prog 61 #[.pointer (some ⟨S, 0, none⟩), .int .i64 n] w fun e w' => ∃ r : Bool, e = .returned (.bool r) ∧ Src w' S v (K + 2) ∧ w.grownBy w' (some S) := by
  have H := Lib.hid (pick_any v bs S K n w hs hb hbS hn hK h0 h1)
  clear hs hb hbS
  go_enter Tryz.func61, Tryz.ntmps61
  go_wp2_with fail
  refine H.out.mono ?_
  rintro e w1 ⟨r, rfl, hr0, hr1, s1, g1⟩
  have S1 := Lib.hid s1
  have G1 := Lib.hid g1
  clear s1 g1
  go_wp2_with fail
  go_ret
  exact ⟨_, rfl, S1.out, G1.out⟩

set_option linter.unusedVariables false in
set_option maxRecDepth 100000 in
set_option maxHeartbeats 2000000 in
theorem among_any (v : Value) (bs : List Int) (S K : Nat) (lb m : Nat) (ls : List Int) (w : World) (hs : Src w S v K) (hb : Bytes w v bs) (hbS : Apart v S) (hn : bs.length ≤ 3000) (hK : K + 2 ≤ 1000000)
    (hm : ls.length = m) (hm0 : 0 < m) (hm1 : m ≤ 1000) (hl : ∀ j, j < m → w.cell? ⟨lb, j, none⟩ = some (.int .i64 (ls.getD j 0))) (hlb : lb < w.heap.size) (hlS : lb ≠ S) :
    Calls Tryz.prog 60 #[.pointer (some ⟨S, 0, none⟩), .slice (some ⟨lb, 0, none⟩) m m] w fun e w' => ∃ j, j < m ∧ e = .returned (.int .i64 (ls.getD j 0)) ∧ Src w' S v (K + 2) ∧ w.grownBy w' (some S) := by
  have H := Lib.hid (pick_any v bs S K (m : Int) w hs hb hbS hn hK (by omega) (by omega))
  have HL := Lib.hid hl
  clear hs hb hbS hl hm
  go_enter Tryz.func60, Tryz.ntmps60
  go_wp2_with fail
  refine H.out.mono ?_
  rintro e w1 ⟨r, rfl, hr0, hr1, s1, g1⟩
  obtain ⟨j, rfl⟩ := Int.eq_ofNat_of_zero_le hr0
  have hjm : j < m := by omega
  have hji : (j : Int) < (m : Int) := by omega
  have c1 : w1.cell? ⟨lb, j, none⟩ = some (.int .i64 (ls.getD j 0)) := g1.cell (HL.out j hjm) (fun e => hlS (Option.some.inj e))
  have S1 := Lib.hid s1
  have G1 := Lib.hid g1
  obtain ⟨z, hz⟩ : ∃ z, z = ls.getD j 0 := ⟨_, rfl⟩
  have HZ := Lib.hid hz
  rw [← hz] at c1
  clear s1 g1 hr1 hz
  go_wp2_with fail
  go_ret
  exact ⟨j, hjm, by rw [← HZ.out]; rfl, S1.out, G1.out⟩

/-- What is drawn: an even number of stripes, none of them thick. -/
def okD (zs : List Int) : Prop := 2 ≤ zs.length ∧ zs.length ≤ 8 ∧ zs.length % 2 = 0 ∧ upTo zs 999 = true
theorem okD_okW {zs : List Int} (h : okD zs) : okW zs = true := by
  obtain ⟨h1, h2, h3, h4⟩ := h
  have hu := upTo_mono h4 (show (999 : Int) ≤ 10000 by omega)
  simp only [okW, Bool.and_eq_true, decide_eq_true_eq]
  exact ⟨inB_mk ⟨by omega, by omega⟩, by omega, hu⟩
theorem upTo_app {zs : List Int} {m z : Int} (h : upTo zs m = true) (h0 : 0 ≤ z) (h1 : z ≤ m) : upTo (zs ++ [z]) m = true := by
  rw [upTo, List.all_append, ← upTo, h]
  simp [inB_mk ⟨h0, h1⟩]

set_option maxRecDepth 100000 in
set_option maxHeartbeats 4000000 in
theorem drawn_any (v : Value) (bs : List Int) (S : Nat) (w : World) (hs : Src w S v 0) (hb : Bytes w v bs) (hbS : Apart v S) (hbl : ∀ b o s c m, v = .slice (some ⟨b, o, s⟩) m c → 0 < m → b < w.heap.size) (hn : bs.length ≤ 3000) :
    Calls Tryz.prog 29 #[.pointer (some ⟨S, 0, none⟩)] w fun e w' => ∃ (r : Value) (zs : List Int), e = .returned r ∧ Own w' w.heap.size r zs ∧ okD zs ∧ w.grownBy w' (some S) := by
  obtain ⟨i0, hi, hz0, hz1, hz2⟩ := info_parts info64
  have hSl : S < w.heap.size := by
    obtain ⟨a, s, ha, s0, _⟩ := hs
    exact World.block_lt_of_cell? w _ s0
  have HS := Lib.hid hs
  have HB := Lib.hid hb
  have HP := Lib.hid hbS
  have HBL := Lib.hid hbl
  clear hs hb hbS hbl
  go_enter Tryz.func29, Tryz.ntmps29
  go_wp2_with fail
  have g0 : w.grownBy ((w.alloc (.cells #[] 2)).alloc (.cells #[.int .i64 3, .int .i64 12, .int .i64 40, .int .i64 1000] 2)) (none : Option Nat) := grown_trans (World.grownBy_alloc w _ none) (World.grownBy_alloc _ _ none)
  have hcl : ∀ j, j < 4 → ((w.alloc (.cells #[] 2)).alloc (.cells #[.int .i64 3, .int .i64 12, .int .i64 40, .int .i64 1000] 2)).cell? ⟨w.heap.size + 1, j, none⟩ = some (.int .i64 (([3, 12, 40, 1000] : List Int).getD j 0)) := by
    intro j hj
    match j, hj with
    | 0, _ => simp [go_sem]
    | 1, _ => simp [go_sem]
    | 2, _ => simp [go_sem]
    | 3, _ => simp [go_sem]
    | j + 4, hj => omega
  refine (among_any v bs S 0 (w.heap.size + 1) 4 [3, 12, 40, 1000] _ (HS.out.far g0 (by simp)) (HB.out.far (B := w.heap.size) HBL.out g0 (fun k hk => by cases hk)) HP.out hn (by omega) rfl (by omega) (by omega) hcl (by simp) (by omega)).mono ?_
  rintro e w1 ⟨j, hj, rfl, s1, g1⟩
  have hmb : 3 ≤ ([3, 12, 40, 1000] : List Int).getD j 0 ∧ ([3, 12, 40, 1000] : List Int).getD j 0 ≤ 1000 := by
    match j, hj with
    | 0, _ => simp
    | 1, _ => simp
    | 2, _ => simp
    | 3, _ => simp
    | j + 4, hj => omega
  obtain ⟨mo, hmo⟩ : ∃ mo, mo = ([3, 12, 40, 1000] : List Int).getD j 0 := ⟨_, rfl⟩
  rw [← hmo] at hmb ⊢
  have O1 : Hid (w1.ownsRow w.heap.size 2 1 (.slice (some ⟨w.heap.size, 0, none⟩) 0 0) 0 []) :=
    World.ownsRow.kept ((World.ownsRow_made (base := w.heap.size) w #[] 0 (Nat.le_refl _) (by decide) rfl).alloc _) g1 (.inr (by intro e; have h : w.heap.size = S := Option.some.inj e; omega))
  have G1 : Hid (w.grownBy w1 (some S)) := grown_trans (grown_far (World.grownBy.refl w (some S)) g0 (fun k hk => by cases hk)) g1
  have S1 := Lib.hid s1
  have B1 := Lib.hid (HB.out.far (B := w.heap.size) HBL.out g0 (fun k hk => by cases hk))
  have B1 := Lib.hid (B1.out.grown HP.out g1)
  clear s1 g1 g0 hcl hmo hj
  go_wp2_with fail
  refine (pick_any v bs S 2 4 w1 S1.out B1.out HP.out hn (by omega) (by omega) (by omega)).mono ?_
  rintro e w2 ⟨p, rfl, hp0, hp1, s2, g2⟩
  have hp4 : p < 4 := by omega
  have O2 : Hid (w2.ownsRow w.heap.size 2 1 (.slice (some ⟨w.heap.size, 0, none⟩) 0 0) 0 []) :=
    World.ownsRow.kept O1.out g2 (.inr (by intro e; have h : w.heap.size = S := Option.some.inj e; omega))
  have G2 := Lib.hid (grown_trans G1.out g2)
  have S2 := Lib.hid s2
  have B2 := Lib.hid (B1.out.grown HP.out g2)
  obtain ⟨N, hN⟩ : ∃ N : Nat, (N : Int) = 2 * (1 + p) := ⟨(2 * (1 + p)).toNat, by omega⟩
  have hNb : 2 ≤ N ∧ N ≤ 8 ∧ N % 2 = 0 := by omega
  have HNN := Lib.hid hN
  clear s2 g2 O1 G1 S1 B1 hN
  go_wp2_with fail
  have hkv : (2 * (1 + p)) = (N : Int) := HNN.out.symm
  rw [hkv]
  clear hkv HNN hp0 hp1 hp4
  go_loopw [3, 5] (fun o kk wr => ∃ (q : Nat) (u : Value) (zs : List Int), zs.length + q = N ∧ kk = .int .i64 q ∧ u = o ∧ Hid (upTo zs 999 = true) ∧ Hid (wr.ownsRow w.heap.size 2 1 o zs.length (zs.map (Value.int .i64))) ∧ Hid (w.grownBy wr (some S)) ∧ Hid (Src wr S v (4 + 6 * zs.length)) ∧ Hid (Bytes wr v bs)) (fun _ kk _ => (intOf kk).toNat)
  case atStart => exact ⟨N, _, [], by simp, rfl, rfl, by rfl, O2, G2, S2, B2⟩
  case round =>
    clear O2 G2 S2 B2
    obtain ⟨q, u, zs, hzq, rfl, rfl, hU, hO, hG, hSr, hBr⟩ := hrel
    by_cases hq : 0 < q
    · have hq1 : (0 : Int) < (q : Int) := by omega
      have hszw : w.heap.size ≤ wr.heap.size := hG.out.size
      have hob : u.ownBlock = none ∨ u.ownBlock ≠ some S := by
        refine .inr fun e => ?_
        have := (hO.out.lt S e).1
        omega
      go_wp2_with fail
      refine (pick_any v bs S _ mo wr hSr.out hBr.out HP.out hn (by omega) (by omega) (by omega)).mono ?_
      rintro e w3 ⟨z, rfl, hz0', hz1', s3, g3⟩
      have O3 := Lib.hid (World.ownsRow.kept hO.out g3 hob)
      have G3 := Lib.hid (grown_trans hG.out g3)
      have S3 := Lib.hid s3
      have B3 := Lib.hid (hBr.out.grown HP.out g3)
      have hzz : 0 ≤ z ∧ z ≤ 999 := by omega
      clear s3 g3 hz0' hz1'
      go_wp2_with fail
      refine (one_any v bs S _ 4 w3 S3.out B3.out HP.out hn (by omega) (by omega) (by omega)).mono ?_
      rintro e w4 ⟨b, rfl, s4, g4⟩
      have O4 := Lib.hid (World.ownsRow.kept O3.out g4 hob)
      have G4 := Lib.hid (grown_trans G3.out g4)
      have S4 := Lib.hid s4
      have B4 := Lib.hid (B3.out.grown HP.out g4)
      have hs4 : w.heap.size ≤ w4.heap.size := G4.out.size
      clear s4 g4 O3 G3 S3 B3
      cases b with
      | false =>
        go_wp2_with (first
          | (at_builtin; refine wpList_append_lies _ rfl _ _ _ rfl w.heap.size 2 i0 (.int .i64 0) 1 8 Tryz.underlying24 hi hz0 hz1 hz2 rfl (by omega) u zs.length _ rfl (O4.out.alloc _) ⟨w4.heap.size, 0, none⟩ 1 1 _ rfl rfl (World.news_of_block (heap_alloc_new w4 _)) (one_one _) (by omega) (by unfold maxLen; omega) (by omega) (by simp; omega) (w4.heap.size + 1) (by simp) ?_; intro gg cap w9 hown9 hgrow9 hat hlt9)
          | go_in)
        have hga := grown_alloc hgrow9
        have hrow : ∀ k, u.ownBlock = some k → w.heap.size ≤ k := fun k hk => (O4.out.lt k hk).1
        have hu9 : Hid (upTo (zs ++ [z]) 999 = true) := upTo_app hU.out (by omega) (by omega)
        have O9 : Hid (w9.ownsRow w.heap.size 2 1 (.slice (some ⟨gg, 0, none⟩) (zs.length + 1) cap) (zs ++ [z]).length ((zs ++ [z]).map (Value.int .i64))) := by
          rw [List.map_append, List.length_append]
          exact hown9
        have G9 : Hid (w.grownBy w9 (some S)) := grown_far G4.out hga hrow
        have S9 : Hid (Src w9 S v (4 + 6 * (zs ++ [z]).length)) := by
          rw [List.length_append]
          exact (S4.out.far hga (fun e => by have := hrow S e; omega)).mono (by simp; omega)
        have B9 : Hid (Bytes w9 v bs) := B4.out.far (B := w.heap.size) HBL.out hga hrow
        have hlen9 : (zs ++ [z]).length = zs.length + 1 := by simp
        obtain ⟨ys, hys⟩ : ∃ ys, ys = zs ++ [z] := ⟨_, rfl⟩
        rw [← hys] at hu9 O9 S9 hlen9
        clear hown9 hgrow9 hat hlt9 hga hrow hys
        go_roundw
        case rel => exact ⟨q - 1, _, ys, by omega, by go_num, rfl, hu9, O9, G9, S9, B9⟩
        case measure => simp [intOf]; omega
      | true =>
        go_wp2_with fail
        refine (pick_any v bs S _ 3 w4 S4.out B4.out HP.out hn (by omega) (by omega) (by omega)).mono ?_
        rintro e w5 ⟨y, rfl, hy0, hy1, s5, g5⟩
        have O5 := Lib.hid (World.ownsRow.kept O4.out g5 hob)
        have G5 := Lib.hid (grown_trans G4.out g5)
        have S5 := Lib.hid s5
        have B5 := Lib.hid (B4.out.grown HP.out g5)
        have hyy : 0 ≤ y ∧ y ≤ 999 := by omega
        have hs5 : w.heap.size ≤ w5.heap.size := G5.out.size
        clear s5 g5 hy0 hy1 O4 G4 S4 B4
        go_wp2_with (first
          | (at_builtin; refine wpList_append_lies _ rfl _ _ _ rfl w.heap.size 2 i0 (.int .i64 0) 1 8 Tryz.underlying24 hi hz0 hz1 hz2 rfl (by omega) u zs.length _ rfl (O5.out.alloc _) ⟨w5.heap.size, 0, none⟩ 1 1 _ rfl rfl (World.news_of_block (heap_alloc_new w5 _)) (one_one _) (by omega) (by unfold maxLen; omega) (by omega) (by simp; omega) (w5.heap.size + 1) (by simp) ?_; intro gg cap w9 hown9 hgrow9 hat hlt9)
          | go_in)
        have hga := grown_alloc hgrow9
        have hrow : ∀ k, u.ownBlock = some k → w.heap.size ≤ k := fun k hk => (O5.out.lt k hk).1
        have hu9 : Hid (upTo (zs ++ [y]) 999 = true) := upTo_app hU.out (by omega) (by omega)
        have O9 : Hid (w9.ownsRow w.heap.size 2 1 (.slice (some ⟨gg, 0, none⟩) (zs.length + 1) cap) (zs ++ [y]).length ((zs ++ [y]).map (Value.int .i64))) := by
          rw [List.map_append, List.length_append]
          exact hown9
        have G9 : Hid (w.grownBy w9 (some S)) := grown_far G5.out hga hrow
        have S9 : Hid (Src w9 S v (4 + 6 * (zs ++ [y]).length)) := by
          rw [List.length_append]
          exact (S5.out.far hga (fun e => by have := hrow S e; omega)).mono (by simp; omega)
        have B9 : Hid (Bytes w9 v bs) := B5.out.far (B := w.heap.size) HBL.out hga hrow
        have hlen9 : (zs ++ [y]).length = zs.length + 1 := by simp
        obtain ⟨ys, hys⟩ : ∃ ys, ys = zs ++ [y] := ⟨_, rfl⟩
        rw [← hys] at hu9 O9 S9 hlen9
        clear hown9 hgrow9 hat hlt9 hga hrow hys
        go_roundw
        case rel => exact ⟨q - 1, _, ys, by omega, by go_num, rfl, hu9, O9, G9, S9, B9⟩
        case measure => simp [intOf]; omega
    · have hq0 : q = 0 := by omega
      subst hq0
      have hlN : zs.length = N := by omega
      go_wp2_with fail
      go_ret
      exact ⟨_, zs, rfl, hO.out, ⟨by omega, by omega, by omega, hU.out⟩, hG.out⟩
end Go.Proofs.YtpnfombolnaldaaGreatDoor
