/-
  No statement is proved here: the indices of lots put in order by a key, in the program; condition: at most 6 lots.
-/
import Derived.Test.YtapimmlhcbjgoaaFiSort
import Derived.Test.YtapimmlhcbjgoaaZeros
import Derived.Deep.RegionWith
namespace Go.Proofs.Ytapimmlhcbjgoaa
open Go.ChangeShapes Go.WideShapes Go.ChangeAt Go.RowKit

theorem keyA_any (s l : Int) (w : World) :
    Calls Try.prog 26 #[.agg #[.int .i8 s, .int .i16 l]] w fun e w' => e = .returned (.int .i16 0) ∧ Below w.heap.size w w' := by
  go_enter Try.func26, Try.ntmps26
  go_wp2
  go_ret
  exact ⟨rfl, by go_grown⟩
theorem keyB_any (s l : Int) (w : World) :
    Calls Try.prog 29 #[.agg #[.int .i8 s, .int .i16 l]] w fun e w' => e = .returned (.int .i16 l) ∧ Below w.heap.size w w' := by
  go_enter Try.func29, Try.ntmps29
  go_wp2
  go_ret
  exact ⟨rfl, by go_grown⟩
/-- Two boxes, and a world behind another. -/
theorem box_next {w W w' : World} {b d g o1 o2 : Nat} {x y u1 u2 u3 u4 : Value} (h : W.cell? ⟨b, 0, none⟩ = some x ∧ W.cell? ⟨d, 0, none⟩ = some y ∧ W.cell? ⟨g, o1, none⟩ = some u1 ∧ W.cell? ⟨g, o1 + 1, none⟩ = some u2 ∧ W.cell? ⟨g, o2, none⟩ = some u3 ∧ W.cell? ⟨g, o2 + 1, none⟩ = some u4 ∧ Below w.heap.size w W ∧ b < W.heap.size ∧ d < W.heap.size ∧ g < W.heap.size) (hB : Below W.heap.size W w') :
    w'.cell? ⟨b, 0, none⟩ = some x ∧ w'.cell? ⟨d, 0, none⟩ = some y ∧ w'.cell? ⟨g, o1, none⟩ = some u1 ∧ w'.cell? ⟨g, o1 + 1, none⟩ = some u2 ∧ w'.cell? ⟨g, o2, none⟩ = some u3 ∧ w'.cell? ⟨g, o2 + 1, none⟩ = some u4 ∧ Below w.heap.size w w' ∧ b < w'.heap.size ∧ d < w'.heap.size ∧ g < w'.heap.size := by
  obtain ⟨h1, h2, h3, h4, h5, h6, h7, h8, h9, h10⟩ := h
  exact ⟨kept hB h8 h1, kept hB h9 h2, kept hB h10 h3, kept hB h10 h4, kept hB h10 h5, kept hB h10 h6, h7.trans (hB.mono h7.size), Nat.lt_of_lt_of_le h8 hB.size, Nat.lt_of_lt_of_le h9 hB.size, Nat.lt_of_lt_of_le h10 hB.size⟩
theorem box_below {w W : World} {b d g o1 o2 : Nat} {x y u1 u2 u3 u4 : Value} (h : W.cell? ⟨b, 0, none⟩ = some x ∧ W.cell? ⟨d, 0, none⟩ = some y ∧ W.cell? ⟨g, o1, none⟩ = some u1 ∧ W.cell? ⟨g, o1 + 1, none⟩ = some u2 ∧ W.cell? ⟨g, o2, none⟩ = some u3 ∧ W.cell? ⟨g, o2 + 1, none⟩ = some u4 ∧ Below w.heap.size w W ∧ b < W.heap.size ∧ d < W.heap.size ∧ g < W.heap.size) : Below w.heap.size w W := h.2.2.2.2.2.2.1
theorem nm_idr_step (N k : Nat) (hk : k < N) : (nm (idr 0 k ++ List.replicate (N - k) 0)).set k (k : Int) = nm (idr 0 (k + 1) ++ List.replicate (N - (k + 1)) 0) := by
  have e : idr 0 (k + 1) = idr 0 k ++ [k] := by
    unfold idr
    rw [Nat.sub_zero, Nat.sub_zero, List.range'_concat]
    simp
  rw [e, show N - k = (N - (k + 1)) + 1 by omega, List.replicate_succ]
  unfold nm
  rw [List.map_append, List.set_append, if_neg (by simp [idr])]
  simp [idr]

set_option maxRecDepth 100000 in
set_option maxHeartbeats 8000000 in
theorem cmpA_any (kb lb b off cap n i j : Nat) (T : List Lt) (w : World) (hk : w.cell? ⟨kb, 0, none⟩ = some (.func (Fn.func 26) #[] #[])) (hl : w.cell? ⟨lb, 0, none⟩ = some (.slice (some ⟨b, off, none⟩) n cap))
    (hb : b < w.heap.size) (hci : w.cell? ⟨b, off + i * 2, none⟩ = some (.int .i8 (atLt T i).1) ∧ w.cell? ⟨b, off + i * 2 + 1, none⟩ = some (.int .i16 (atLt T i).2))
    (hcj : w.cell? ⟨b, off + j * 2, none⟩ = some (.int .i8 (atLt T j).1) ∧ w.cell? ⟨b, off + j * 2 + 1, none⟩ = some (.int .i16 (atLt T j).2)) (hi : i < n) (hj : j < n) :
    Calls Try.prog 39 #[.int .i64 i, .int .i64 j, .pointer (some ⟨kb, 0, none⟩), .pointer (some ⟨lb, 0, none⟩)] w
      fun e w' => e = .returned (.int .i64 (cmpF (keyF false T i) (keyF false T j))) ∧ Below w.heap.size w w' := by
  have HK1 := Lib.hid fun wx => keyA_any (atLt T i).1 (atLt T i).2 wx
  have HK2 := Lib.hid fun wx => keyA_any (atLt T j).1 (atLt T j).2 wx
  have HC := Lib.hid fun wx => compare_any (keyF false T i) (keyF false T j) wx
  rw [show keyF false T i = 0 from rfl, show keyF false T j = 0 from rfl] at HC
  rw [show keyF false T i = 0 from rfl, show keyF false T j = 0 from rfl]
  obtain ⟨i0, i1⟩ := hci
  obtain ⟨j0, j1⟩ := hcj
  generalize (atLt T i).1 = si at *
  generalize (atLt T i).2 = li at *
  generalize (atLt T j).1 = sj at *
  generalize (atLt T j).2 = lj at *
  have hkb := World.block_lt_of_cell? w _ hk
  have hlb := World.block_lt_of_cell? w _ hl
  have X0 : Hid (w.drew.cell? ⟨kb, 0, none⟩ = some (.func (Fn.func 26) #[] #[]) ∧ w.drew.cell? ⟨lb, 0, none⟩ = some (.slice (some ⟨b, off, none⟩) n cap) ∧ w.drew.cell? ⟨b, off + i * 2, none⟩ = some (.int .i8 si) ∧ w.drew.cell? ⟨b, off + i * 2 + 1, none⟩ = some (.int .i16 li) ∧ w.drew.cell? ⟨b, off + j * 2, none⟩ = some (.int .i8 sj) ∧ w.drew.cell? ⟨b, off + j * 2 + 1, none⟩ = some (.int .i16 lj) ∧ Below w.heap.size w w.drew ∧ kb < w.drew.heap.size ∧ lb < w.drew.heap.size ∧ b < w.drew.heap.size) := Lib.hid ⟨hk, hl, i0, i1, j0, j1, (Below.refl _ _).drew, hkb, hlb, hb⟩
  have hni : ¬ n ≤ i := by omega
  have hnj : ¬ n ≤ j := by omega
  clear hkb hlb hb
  go_enter Try.func39, Try.ntmps39
  go_wp2_with fail
  go_region_held3 (fun w' => w'.cell? ⟨kb, 0, none⟩ = some (.func (Fn.func 26) #[] #[]) ∧ w'.cell? ⟨lb, 0, none⟩ = some (.slice (some ⟨b, off, none⟩) n cap) ∧ w'.cell? ⟨b, off + i * 2, none⟩ = some (.int .i8 si) ∧ w'.cell? ⟨b, off + i * 2 + 1, none⟩ = some (.int .i16 li) ∧ w'.cell? ⟨b, off + j * 2, none⟩ = some (.int .i8 sj) ∧ w'.cell? ⟨b, off + j * 2 + 1, none⟩ = some (.int .i16 lj) ∧ Below w.heap.size w w' ∧ kb < w'.heap.size ∧ lb < w'.heap.size ∧ b < w'.heap.size)
    (first | assumption | exact X0.out | (refine box_next ?_ hB3; assumption) | (refine box_next ?_ hB4; assumption))
    (first | (go_at_call_of 26 (Value.agg #[Value.int IntKind.i8 si, Value.int IntKind.i16 li]); refine (HK1.out _).mono ?_; rintro e w3 ⟨rfl, hB3⟩) | (go_at_call_of 26 (Value.agg #[Value.int IntKind.i8 sj, Value.int IntKind.i16 lj]); refine (HK2.out _).mono ?_; rintro e w4 ⟨rfl, hB4⟩) | (go_at_call 40; refine (HC.out _).mono ?_; rintro e w5 ⟨rfl, rfl⟩) | fail)
  all_goals
    have HE := Lib.hid (box_below (w := w) (b := kb) (d := lb) (g := b) (by assumption))
    go_wp2_with fail
    go_ret
    exact ⟨rfl, HE.out⟩

set_option maxRecDepth 100000 in
set_option maxHeartbeats 8000000 in
theorem orderedA_any (v : Value) (T : List Lt) (w : World) (h : Lts w v T) (hn : T.length ≤ 6) :
    Calls Try.prog 35 #[v, .func (Fn.func 26) #[] #[]] w
      fun e w' => ∃ r P, e = .returned r ∧ Srt (keyF false T) P T.length ∧ Own w' w.heap.size r (nm P) ∧ Below w.heap.size w w' := by
  obtain ⟨N, hN⟩ : ∃ N, N = T.length := ⟨_, rfl⟩
  obtain ⟨RA, hmk, hmo⟩ := make_zeros N (by omega)
  obtain ⟨a, cap, rfl⟩ := h.len
  rw [← hN] at hn h ⊢
  obtain ⟨W0, hW0⟩ : ∃ W0, W0 = (w.alloc (.cells #[.slice a N cap] 29)).alloc (.cells #[.func (Fn.func 26) #[] #[]] 53) := ⟨_, rfl⟩
  have hz : W0.heap.size = w.heap.size + 1 + 1 := by rw [hW0]; simp
  have hkb : W0.cell? ⟨w.heap.size + 1, 0, none⟩ = some (.func (Fn.func 26) #[] #[]) := by rw [hW0]; simp [go_sem]
  have hlb : W0.cell? ⟨w.heap.size, 0, none⟩ = some (.slice a N cap) := by rw [hW0]; simp [go_sem]
  have B0 := Lib.hid (show Below w.heap.size w W0 by rw [hW0]; go_grown)
  have HK := Lib.hid hkb
  have HL := Lib.hid hlb
  have HT := Lib.hid h
  have HN := Lib.hid hN
  have HZ := Lib.hid hz
  have O0 : Hid (Own (W0.alloc (.cells RA 2)) (w.heap.size + 1 + 1) (.slice (some ⟨(w.heap.size + 1 + 1), 0, none⟩) N N) (nm (idr 0 0 ++ List.replicate (N - 0) 0))) := Lib.hid (by
    rw [show nm (idr 0 0 ++ List.replicate (N - 0) 0) = List.replicate N (0 : Int) by simp [nm, idr]]
    have := hmo W0
    rw [hz] at this
    exact this)
  have T0 := Lib.hid (show Below (w.heap.size + 1 + 1) W0 (W0.alloc (.cells RA 2)) from hz ▸ (Below.refl W0.heap.size W0).alloc (Nat.le_refl _) (.cells RA 2))
  have HW0 := Lib.hid hW0
  clear hkb h hN hz hW0 hmo
  go_enter Try.func35, Try.ntmps35
  go_wp2_with fail
  rw [← HW0.out]
  go_wp2_with fail
  go_loopw [12] (fun i wr => ∃ k : Nat, i = .int .i64 k ∧ k ≤ N ∧ Hid (Own wr (w.heap.size + 1 + 1) (.slice (some ⟨(w.heap.size + 1 + 1), 0, none⟩) N N) (nm (idr 0 k ++ List.replicate (N - k) 0))) ∧ Hid (Below (w.heap.size + 1 + 1) W0 wr)) (fun i _ => 8 - (intOf i).toNat)
  case atStart => exact ⟨0, rfl, Nat.zero_le _, O0, T0⟩
  case round =>
    clear O0 T0
    obtain ⟨k, rfl, hk, hO, hB⟩ := hrel
    by_cases hlt : k < N
    · have hltI : (k : Int) < (N : Int) := by omega
      have hln : (nm (idr 0 k ++ List.replicate (N - k) 0)).length = N := by rw [nm_length]; simp [idr_length]; omega
      have hrow := hO.out.row
      rw [hln] at hrow
      have c0 := (hrow.cellAt k (by omega)).trans (cellOf (by omega))
      have f0 := hrow.frozenAt k
      have S1 := (hrow.stored k (.int .i64 (k : Int))).1
      rw [← List.map_set, nm_idr_step N k hlt] at S1
      have HS1 := Lib.hid S1
      have HLN := Lib.hid (show (nm (idr 0 (k + 1) ++ List.replicate (N - (k + 1)) 0)).length = N by rw [nm_length]; simp [idr_length]; omega)
      have HB1 := Lib.hid (hB.out.setCell (p := ⟨(w.heap.size + 1 + 1), k, none⟩) (by simp) (.int .i64 (k : Int)))
      clear hO hB hrow S1 hln
      go_wp2
      go_roundw
      case rel => exact ⟨k + 1, by go_num, by omega, Lib.hid (by unfold Own; rw [HLN.out]; exact HS1.out), HB1⟩
      case measure => simp [intOf]; omega
    · obtain rfl : k = N := by omega
      have hO2 : Own wr (w.heap.size + 1 + 1) (.slice (some ⟨(w.heap.size + 1 + 1), 0, none⟩) k k) (nm (idr 0 k)) := by
        have := hO.out
        rw [Nat.sub_self, List.replicate_zero, List.append_nil] at this
        exact this
      have hCK : CmpOk (keyF false T) k (w.heap.size + 1) w.heap.size (w.heap.size + 1 + 1) wr := by
        intro i j hi hj wx hg
        obtain ⟨b, off, c', e, hb, hc⟩ := HT.out.pos (by have := HN.out; omega)
        rw [← HN.out] at e hc
        simp only [Value.slice.injEq] at e
        obtain ⟨rfl, _, rfl⟩ := e
        have hz := HZ.out
        have hzr := hB.out.size
        have far : ∀ c o : Nat, c < (w.heap.size + 1 + 1) → wx.cell? ⟨c, o, none⟩ = W0.cell? ⟨c, o, none⟩ := fun c o hcl => (World.cell?_of_block (w := wr) (a := ⟨c, o, none⟩) (hg.block c (by omega) (by intro x; simp at x; omega))).trans (hB.out.cell (p := ⟨c, o, none⟩) hcl)
        have far2 : ∀ o : Nat, wx.cell? ⟨b, o, none⟩ = w.cell? ⟨b, o, none⟩ := fun o => (far b o (by omega)).trans (B0.out.cell (p := ⟨b, o, none⟩) hb)
        exact cmpA_any (w.heap.size + 1) w.heap.size b off cap k i j T wx ((far _ _ (by omega)).trans HK.out) ((far _ _ (by omega)).trans HL.out) (by have := hg.size; omega)
          ⟨(far2 _).trans (hc i hi).1, (far2 _).trans (hc i hi).2⟩ ⟨(far2 _).trans (hc j hj).1, (far2 _).trans (hc j hj).2⟩ hi hj
      have HC := Lib.hid (sort_any (keyF false T) k (w.heap.size + 1 + 1) k (w.heap.size + 1 + 1) (w.heap.size + 1) w.heap.size wr hO2 (by omega) hCK)
      have HB := Lib.hid hB.out
      clear hO hB hO2 hCK
      go_wp2_with fail
      refine HC.out.mono ?_
      rintro e w2 ⟨⟨v, rfl⟩, hP, hG⟩
      obtain ⟨P, hS, hO⟩ := hP
      have HS := Lib.hid hS
      have HO := Lib.hid (hO.mono (show w.heap.size ≤ (w.heap.size + 1 + 1) by have := HZ.out; omega))
      have HT2 := Lib.hid (B0.out.trans ((HB.out.grown hG (by have := HB.out.size; have := HZ.out; omega) (fun q hq => by simp at hq; omega)).mono (by have := B0.out.size; omega)))
      clear hS hO hG
      go_wp2_with fail
      go_ret
      exact ⟨_, P, rfl, HS.out, HO.out, HT2.out⟩

set_option maxRecDepth 100000 in
set_option maxHeartbeats 8000000 in
theorem cmpB_any (kb lb b off cap n i j : Nat) (T : List Lt) (w : World) (hk : w.cell? ⟨kb, 0, none⟩ = some (.func (Fn.func 29) #[] #[])) (hl : w.cell? ⟨lb, 0, none⟩ = some (.slice (some ⟨b, off, none⟩) n cap))
    (hb : b < w.heap.size) (hci : w.cell? ⟨b, off + i * 2, none⟩ = some (.int .i8 (atLt T i).1) ∧ w.cell? ⟨b, off + i * 2 + 1, none⟩ = some (.int .i16 (atLt T i).2))
    (hcj : w.cell? ⟨b, off + j * 2, none⟩ = some (.int .i8 (atLt T j).1) ∧ w.cell? ⟨b, off + j * 2 + 1, none⟩ = some (.int .i16 (atLt T j).2)) (hi : i < n) (hj : j < n) :
    Calls Try.prog 39 #[.int .i64 i, .int .i64 j, .pointer (some ⟨kb, 0, none⟩), .pointer (some ⟨lb, 0, none⟩)] w
      fun e w' => e = .returned (.int .i64 (cmpF (keyF true T i) (keyF true T j))) ∧ Below w.heap.size w w' := by
  have HK1 := Lib.hid fun wx => keyB_any (atLt T i).1 (atLt T i).2 wx
  have HK2 := Lib.hid fun wx => keyB_any (atLt T j).1 (atLt T j).2 wx
  have HC := Lib.hid fun wx => compare_any (keyF true T i) (keyF true T j) wx
  rw [show keyF true T i = (atLt T i).2 from rfl, show keyF true T j = (atLt T j).2 from rfl] at HC
  rw [show keyF true T i = (atLt T i).2 from rfl, show keyF true T j = (atLt T j).2 from rfl]
  obtain ⟨i0, i1⟩ := hci
  obtain ⟨j0, j1⟩ := hcj
  generalize (atLt T i).1 = si at *
  generalize (atLt T i).2 = li at *
  generalize (atLt T j).1 = sj at *
  generalize (atLt T j).2 = lj at *
  have hkb := World.block_lt_of_cell? w _ hk
  have hlb := World.block_lt_of_cell? w _ hl
  have X0 : Hid (w.drew.cell? ⟨kb, 0, none⟩ = some (.func (Fn.func 29) #[] #[]) ∧ w.drew.cell? ⟨lb, 0, none⟩ = some (.slice (some ⟨b, off, none⟩) n cap) ∧ w.drew.cell? ⟨b, off + i * 2, none⟩ = some (.int .i8 si) ∧ w.drew.cell? ⟨b, off + i * 2 + 1, none⟩ = some (.int .i16 li) ∧ w.drew.cell? ⟨b, off + j * 2, none⟩ = some (.int .i8 sj) ∧ w.drew.cell? ⟨b, off + j * 2 + 1, none⟩ = some (.int .i16 lj) ∧ Below w.heap.size w w.drew ∧ kb < w.drew.heap.size ∧ lb < w.drew.heap.size ∧ b < w.drew.heap.size) := Lib.hid ⟨hk, hl, i0, i1, j0, j1, (Below.refl _ _).drew, hkb, hlb, hb⟩
  have hni : ¬ n ≤ i := by omega
  have hnj : ¬ n ≤ j := by omega
  clear hkb hlb hb
  go_enter Try.func39, Try.ntmps39
  go_wp2_with fail
  go_region_held3 (fun w' => w'.cell? ⟨kb, 0, none⟩ = some (.func (Fn.func 29) #[] #[]) ∧ w'.cell? ⟨lb, 0, none⟩ = some (.slice (some ⟨b, off, none⟩) n cap) ∧ w'.cell? ⟨b, off + i * 2, none⟩ = some (.int .i8 si) ∧ w'.cell? ⟨b, off + i * 2 + 1, none⟩ = some (.int .i16 li) ∧ w'.cell? ⟨b, off + j * 2, none⟩ = some (.int .i8 sj) ∧ w'.cell? ⟨b, off + j * 2 + 1, none⟩ = some (.int .i16 lj) ∧ Below w.heap.size w w' ∧ kb < w'.heap.size ∧ lb < w'.heap.size ∧ b < w'.heap.size)
    (first | assumption | exact X0.out | (refine box_next ?_ hB3; assumption) | (refine box_next ?_ hB4; assumption))
    (first | (go_at_call_of 29 (Value.agg #[Value.int IntKind.i8 si, Value.int IntKind.i16 li]); refine (HK1.out _).mono ?_; rintro e w3 ⟨rfl, hB3⟩) | (go_at_call_of 29 (Value.agg #[Value.int IntKind.i8 sj, Value.int IntKind.i16 lj]); refine (HK2.out _).mono ?_; rintro e w4 ⟨rfl, hB4⟩) | (go_at_call 40; refine (HC.out _).mono ?_; rintro e w5 ⟨rfl, rfl⟩) | fail)
  all_goals
    have HE := Lib.hid (box_below (w := w) (b := kb) (d := lb) (g := b) (by assumption))
    go_wp2_with fail
    go_ret
    exact ⟨rfl, HE.out⟩

set_option maxRecDepth 100000 in
set_option maxHeartbeats 8000000 in
theorem orderedB_any (v : Value) (T : List Lt) (w : World) (h : Lts w v T) (hn : T.length ≤ 6) :
    Calls Try.prog 35 #[v, .func (Fn.func 29) #[] #[]] w
      fun e w' => ∃ r P, e = .returned r ∧ Srt (keyF true T) P T.length ∧ Own w' w.heap.size r (nm P) ∧ Below w.heap.size w w' := by
  obtain ⟨N, hN⟩ : ∃ N, N = T.length := ⟨_, rfl⟩
  obtain ⟨RA, hmk, hmo⟩ := make_zeros N (by omega)
  obtain ⟨a, cap, rfl⟩ := h.len
  rw [← hN] at hn h ⊢
  obtain ⟨W0, hW0⟩ : ∃ W0, W0 = (w.alloc (.cells #[.slice a N cap] 29)).alloc (.cells #[.func (Fn.func 29) #[] #[]] 53) := ⟨_, rfl⟩
  have hz : W0.heap.size = w.heap.size + 1 + 1 := by rw [hW0]; simp
  have hkb : W0.cell? ⟨w.heap.size + 1, 0, none⟩ = some (.func (Fn.func 29) #[] #[]) := by rw [hW0]; simp [go_sem]
  have hlb : W0.cell? ⟨w.heap.size, 0, none⟩ = some (.slice a N cap) := by rw [hW0]; simp [go_sem]
  have B0 := Lib.hid (show Below w.heap.size w W0 by rw [hW0]; go_grown)
  have HK := Lib.hid hkb
  have HL := Lib.hid hlb
  have HT := Lib.hid h
  have HN := Lib.hid hN
  have HZ := Lib.hid hz
  have O0 : Hid (Own (W0.alloc (.cells RA 2)) (w.heap.size + 1 + 1) (.slice (some ⟨(w.heap.size + 1 + 1), 0, none⟩) N N) (nm (idr 0 0 ++ List.replicate (N - 0) 0))) := Lib.hid (by
    rw [show nm (idr 0 0 ++ List.replicate (N - 0) 0) = List.replicate N (0 : Int) by simp [nm, idr]]
    have := hmo W0
    rw [hz] at this
    exact this)
  have T0 := Lib.hid (show Below (w.heap.size + 1 + 1) W0 (W0.alloc (.cells RA 2)) from hz ▸ (Below.refl W0.heap.size W0).alloc (Nat.le_refl _) (.cells RA 2))
  have HW0 := Lib.hid hW0
  clear hkb h hN hz hW0 hmo
  go_enter Try.func35, Try.ntmps35
  go_wp2_with fail
  rw [← HW0.out]
  go_wp2_with fail
  go_loopw [12] (fun i wr => ∃ k : Nat, i = .int .i64 k ∧ k ≤ N ∧ Hid (Own wr (w.heap.size + 1 + 1) (.slice (some ⟨(w.heap.size + 1 + 1), 0, none⟩) N N) (nm (idr 0 k ++ List.replicate (N - k) 0))) ∧ Hid (Below (w.heap.size + 1 + 1) W0 wr)) (fun i _ => 8 - (intOf i).toNat)
  case atStart => exact ⟨0, rfl, Nat.zero_le _, O0, T0⟩
  case round =>
    clear O0 T0
    obtain ⟨k, rfl, hk, hO, hB⟩ := hrel
    by_cases hlt : k < N
    · have hltI : (k : Int) < (N : Int) := by omega
      have hln : (nm (idr 0 k ++ List.replicate (N - k) 0)).length = N := by rw [nm_length]; simp [idr_length]; omega
      have hrow := hO.out.row
      rw [hln] at hrow
      have c0 := (hrow.cellAt k (by omega)).trans (cellOf (by omega))
      have f0 := hrow.frozenAt k
      have S1 := (hrow.stored k (.int .i64 (k : Int))).1
      rw [← List.map_set, nm_idr_step N k hlt] at S1
      have HS1 := Lib.hid S1
      have HLN := Lib.hid (show (nm (idr 0 (k + 1) ++ List.replicate (N - (k + 1)) 0)).length = N by rw [nm_length]; simp [idr_length]; omega)
      have HB1 := Lib.hid (hB.out.setCell (p := ⟨(w.heap.size + 1 + 1), k, none⟩) (by simp) (.int .i64 (k : Int)))
      clear hO hB hrow S1 hln
      go_wp2
      go_roundw
      case rel => exact ⟨k + 1, by go_num, by omega, Lib.hid (by unfold Own; rw [HLN.out]; exact HS1.out), HB1⟩
      case measure => simp [intOf]; omega
    · obtain rfl : k = N := by omega
      have hO2 : Own wr (w.heap.size + 1 + 1) (.slice (some ⟨(w.heap.size + 1 + 1), 0, none⟩) k k) (nm (idr 0 k)) := by
        have := hO.out
        rw [Nat.sub_self, List.replicate_zero, List.append_nil] at this
        exact this
      have hCK : CmpOk (keyF true T) k (w.heap.size + 1) w.heap.size (w.heap.size + 1 + 1) wr := by
        intro i j hi hj wx hg
        obtain ⟨b, off, c', e, hb, hc⟩ := HT.out.pos (by have := HN.out; omega)
        rw [← HN.out] at e hc
        simp only [Value.slice.injEq] at e
        obtain ⟨rfl, _, rfl⟩ := e
        have hz := HZ.out
        have hzr := hB.out.size
        have far : ∀ c o : Nat, c < (w.heap.size + 1 + 1) → wx.cell? ⟨c, o, none⟩ = W0.cell? ⟨c, o, none⟩ := fun c o hcl => (World.cell?_of_block (w := wr) (a := ⟨c, o, none⟩) (hg.block c (by omega) (by intro x; simp at x; omega))).trans (hB.out.cell (p := ⟨c, o, none⟩) hcl)
        have far2 : ∀ o : Nat, wx.cell? ⟨b, o, none⟩ = w.cell? ⟨b, o, none⟩ := fun o => (far b o (by omega)).trans (B0.out.cell (p := ⟨b, o, none⟩) hb)
        exact cmpB_any (w.heap.size + 1) w.heap.size b off cap k i j T wx ((far _ _ (by omega)).trans HK.out) ((far _ _ (by omega)).trans HL.out) (by have := hg.size; omega)
          ⟨(far2 _).trans (hc i hi).1, (far2 _).trans (hc i hi).2⟩ ⟨(far2 _).trans (hc j hj).1, (far2 _).trans (hc j hj).2⟩ hi hj
      have HC := Lib.hid (sort_any (keyF true T) k (w.heap.size + 1 + 1) k (w.heap.size + 1 + 1) (w.heap.size + 1) w.heap.size wr hO2 (by omega) hCK)
      have HB := Lib.hid hB.out
      clear hO hB hO2 hCK
      go_wp2_with fail
      refine HC.out.mono ?_
      rintro e w2 ⟨⟨v, rfl⟩, hP, hG⟩
      obtain ⟨P, hS, hO⟩ := hP
      have HS := Lib.hid hS
      have HO := Lib.hid (hO.mono (show w.heap.size ≤ (w.heap.size + 1 + 1) by have := HZ.out; omega))
      have HT2 := Lib.hid (B0.out.trans ((HB.out.grown hG (by have := HB.out.size; have := HZ.out; omega) (fun q hq => by simp at hq; omega)).mono (by have := B0.out.size; omega)))
      clear hS hO hG
      go_wp2_with fail
      go_ret
      exact ⟨_, P, rfl, HS.out, HO.out, HT2.out⟩

end Go.Proofs.Ytapimmlhcbjgoaa
