/-
  No statement is proved here: MirrorFabric in the program; condition: its errors lie where its text lays them; at most 1048576 rows of at most 1048576 bytes.
-/
import Derived.Test.YtilbadnnmhcdoaaDoorMiM
import Derived.Test.YtilbadnnmhcdoaaDoorKnitP
import Derived.Lib.ConvBytes
import Derived.Lib.AtoiErrMem
import Derived.Deep.RegionWith
import Derived.Deep.DeepCutAuto
import Derived.Deep.AppendLies
namespace Go.Proofs.YtilbadnnmhcdoaaDoor
open Go.ChangeShapes Go.WideShapes Go.ChangeAt Go.RowKit

/-- The first m bytes of a block. -/
def BAt (w : World) (g m : Nat) (zs : Nat → Int) : Prop := ∀ j, j < m → w.cell? ⟨g, j, none⟩ = some (.int .u8 (zs j)) ∧ w.frozen? ⟨g, j, none⟩ = false
theorem BAt.put {w : World} {g m k : Nat} {zs : Nat → Int} (h : BAt w g m zs) (hk : k < m) (x : Int) : BAt (w.setCell ⟨g, k, none⟩ (.int .u8 x)) g m (fun j => if j = k then x else zs j) := by
  intro j hj
  obtain ⟨h1, h2⟩ := h j hj
  refine ⟨?_, by simpa [go_sem] using h2⟩
  by_cases e : j = k
  · subst e
    dsimp only
    rw [if_pos rfl]
    exact World.cell?_setCell_same _ _ _ h1
  · dsimp only
    rw [if_neg e]
    exact (World.cell?_setCell_other _ _ _ _ (by simp)).trans h1
theorem text_bat {w : World} {g m cap : Nat} {zs : Nat → Int} (h : BAt w g m zs) : (convert 91 9 (.slice (some ⟨g, 0, none⟩) m cap)).run Tryd.prog w = .ok (.string (txB ((List.range m).map zs))) w := by
  have hld : (loadCells ⟨g, 0, none⟩ m).run Tryd.prog w = .ok (((List.range m).map zs).map (Value.int .u8)).toArray w := by
    have := run_loadCells_list (P := Tryd.prog) w ⟨g, 0, none⟩ (((List.range m).map zs).map (Value.int .u8)) (fun j v hv => by
      have hj : j < m := by
        rcases Nat.lt_or_ge j m with h | h
        · exact h
        · rw [List.getElem?_eq_none (by simpa using h)] at hv; simp at hv
      have h1 := (h j hj).1
      rw [add_plain, Nat.zero_add, h1]
      simp [hj] at hv
      rw [hv])
    simpa using this
  rw [run_convert_bytes_string _ _ _ _ _ _ _ Tryd.underlying91 Tryd.underlying5 Tryd.underlying9, run_bytesToString _ _ _ _ _ hld, foldl_push]
  simp [txB]
/-- Bytes whose first and last k have changed their places. -/
def swT (f : Nat → Int) (m k : Nat) (j : Nat) : Int := if j < k ∨ m - k ≤ j then f (m - 1 - j) else f j
theorem swT_zero (f : Nat → Int) (m : Nat) (j : Nat) (hj : j < m) : swT f m 0 j = f j := by
  unfold swT
  rw [if_neg (by omega)]
theorem swT_step (f : Nat → Int) {m k i : Nat} (h : k + i + 1 = m) (hk : k < i) (j : Nat) (hj : j < m) : (if j = i then f k else if j = k then f i else swT f m k j) = swT f m (k + 1) j := by
  unfold swT
  by_cases e1 : j = i
  · subst e1
    rw [if_pos rfl, if_pos (by omega)]
    congr 1
    omega
  · rw [if_neg e1]
    by_cases e2 : j = k
    · subst e2
      rw [if_pos rfl, if_pos (by omega)]
      congr 1
      omega
    · rw [if_neg e2]
      by_cases e3 : j < k ∨ m - k ≤ j
      · rw [if_pos e3, if_pos (by omega)]
      · rw [if_neg e3, if_neg (by omega)]
theorem swT_all (f : Nat → Int) {m k i : Nat} (h : k + i + 1 = m) (hk : ¬ k < i) (j : Nat) (hj : j < m) : swT f m k j = f (m - 1 - j) := by
  unfold swT
  by_cases e : j < k ∨ m - k ≤ j
  · rw [if_pos e]
  · rw [if_neg e]
    congr 1
    omega
theorem BAt.same {w : World} {g m : Nat} {a b : Nat → Int} (h : BAt w g m a) (e : ∀ j, j < m → a j = b j) : BAt w g m b := fun j hj => by rw [← e j hj]; exact h j hj
theorem BAt.drew {w : World} {g m : Nat} {a : Nat → Int} (h : BAt w g m a) : BAt w.drew g m a := h

set_option maxRecDepth 100000 in
set_option maxHeartbeats 2000000 in
theorem reverseB_any (g m cap : Nat) (f : Nat → Int) (w : World) (h : BAt w g m f) (hn : m ≤ 1048576) :
    Calls Tryd.prog 59 #[.slice (some ⟨g, 0, none⟩) m cap] w fun e w' => (∃ v, e = .returned v) ∧ BAt w' g m (fun j => f (m - 1 - j)) ∧ w.grownBy w' (some g) := by
  by_cases h0 : m = 0
  · subst h0
    clear h
    go_enter Tryd.func59, Tryd.ntmps59
    go_wp2
    go_loopw [2, 3] (fun i jj wr => i = .int .i64 0 ∧ jj = .int .i64 (-1) ∧ wr = w) (fun _ _ _ => 0)
    case atStart => exact ⟨rfl, by go_num, rfl⟩
    case round =>
      obtain ⟨rfl, rfl, rfl⟩ := hrel
      go_wp2_with fail
      go_end0
      exact ⟨⟨_, rfl⟩, fun j hj => absurd hj (Nat.not_lt_zero j), World.grownBy.refl _ _⟩
  · have HW := Lib.hid (h.same (b := swT f m 0) (fun j hj => (swT_zero f m j hj).symm))
    clear h
    go_enter Tryd.func59, Tryd.ntmps59
    go_wp2
    go_loopw [2, 3] (fun i jj wr => ∃ k j : Nat, k + j + 1 = m ∧ i = .int .i64 k ∧ jj = .int .i64 j ∧ Hid (BAt wr g m (swT f m k)) ∧ Hid (w.grownBy wr (some g))) (fun i _ _ => m - (intOf i).toNat)
    case atStart => exact ⟨0, m - 1, by omega, rfl, by go_num, HW, World.grownBy.refl _ _⟩
    case round =>
      clear HW
      obtain ⟨k, j, hkj, rfl, rfl, hO, hG⟩ := hrel
      by_cases hlt : k < j
      · obtain ⟨c1, f1⟩ := hO.out k (by omega)
        obtain ⟨c2, f2⟩ := hO.out j (by omega)
        rw [show swT f m k k = f k by unfold swT; rw [if_neg (by omega)]] at c1
        rw [show swT f m k j = f j by unfold swT; rw [if_neg (by omega)]] at c2
        have P := (hO.out.put (k := k) (by omega) (f j)).put (k := j) (by omega) (f k)
        have P2 := Lib.hid (P.same (b := swT f m (k + 1)) (fun i hi => swT_step f hkj hlt i hi))
        have G1 := Lib.hid (grown_trM hG.out (grown_trM (grown_setM wr g k (.int .u8 (f j))) (grown_setM _ g j (.int .u8 (f k)))))
        have hne : k ≠ j := by omega
        have hjm : j < m := by omega
        clear P hO
        generalize f k = a at *
        generalize f j = b at *
        go_wp2_with fail
        go_region
        all_goals
          go_wp2_with fail
          go_roundw
          case rel => exact ⟨k + 1, j - 1, by omega, by go_num, by go_num, Lib.hid P2.out.drew, Lib.hid ⟨G1.out.os, G1.out.tape, G1.out.output, G1.out.size, G1.out.block⟩⟩
          case measure => simp [intOf]; omega
      · have HE := Lib.hid (hO.out.same (b := fun i => f (m - 1 - i)) (fun i hi => swT_all f hkj hlt i hi))
        have HG := Lib.hid hG.out
        clear hO hG
        go_wp2_with fail
        go_end0
        exact ⟨⟨_, rfl⟩, HE.out, HG.out⟩
theorem bat_made (w : World) (s : ByteArray) : BAt (Lib.bytesWorld w 5 s) w.heap.size s.size (fun j => (chAt s j : Int)) := fun j hj => by
  refine ⟨Lib.bytesWorld_cell w 5 s j hj, ?_⟩
  simp only [World.frozen?, Lib.bytesWorld_at_new]
  simp [Lib.bytesCells]
  omega
theorem revL_of (s : ByteArray) : (List.range s.size).map (fun j => (chAt s (s.size - 1 - j) : Int)) = revL s s.size := rfl

set_option maxRecDepth 100000 in
set_option maxHeartbeats 16000000 in
theorem implMir_any (p : Nat → Addr) (c : Int) (v : Value) (L : List ByteArray) (w : World) (hs : Sent w p) (hc : -32768 ≤ c ∧ c ≤ 32767) (hC : StrsC w v L) (hn : L.length ≤ 1048576) (hsz : ∀ j, j < L.length → (rowAt L j).size ≤ 1048576) :
    Calls Tryd.prog 29 #[.agg #[.int .i16 c, v]] w fun e w' => ∃ x, e = .returned (.tuple #[.agg #[.int .i16 (mirF c L).1.1, x], .int .i64 (mirF c L).2]) ∧ OwnT w' w.heap.size x (mirF c L).1.2 ∧ Below w.heap.size w w' := by
  obtain ⟨i0, hi, hz0, hz1, hz2⟩ := info_parts infoStr
  obtain ⟨W0, hW0⟩ : ∃ W0, W0 = (w.alloc (.cells #[.int .i16 c, v] 27)).alloc (.cells #[.int .i16 0, .slice none 0 0] 27) := ⟨_, rfl⟩
  have T0 := Lib.hid (show Below w.heap.size w W0 by rw [hW0]; go_grown)
  have b0 : W0.cell? ⟨w.heap.size, 0, none⟩ = some (.int .i16 c) := by rw [hW0]; simp [go_sem]
  have b1 : W0.cell? ⟨w.heap.size, 1, none⟩ = some v := by rw [hW0]; simp [go_sem]
  have r0 : W0.cell? ⟨w.heap.size + 1, 0, none⟩ = some (.int .i16 0) := by rw [hW0]; simp [go_sem]
  have r1 : W0.cell? ⟨w.heap.size + 1, 1, none⟩ = some (.slice none 0 0) := by rw [hW0]; simp [go_sem]
  have f0 : W0.frozen? ⟨w.heap.size + 1, 0, none⟩ = false := by rw [hW0]; simp [go_sem]
  have f1 : W0.frozen? ⟨w.heap.size + 1, 1, none⟩ = false := by rw [hW0]; simp [go_sem]
  have HZ := Lib.hid (show w.heap.size + 1 < W0.heap.size by rw [hW0]; simp)
  have HP := Lib.hid (piece_any p c v L (.slice none 0 0) true W0 (hs.below T0.out) hc (hC.1.below T0.out) hn hsz (fun wx _ => check0_any wx))
  obtain ⟨cs, q, rfl⟩ := hC.1.len
  have HW0 := Lib.hid hW0
  have B0 := Lib.hid b0
  have B1 := Lib.hid b1
  have R0 := Lib.hid r0
  have R1 := Lib.hid r1
  have F0 := Lib.hid f0
  have F1 := Lib.hid f1
  have HNo := Lib.hid (fun h => mirF_no (c := c) (L := L) h)
  have HYe := Lib.hid (fun h => mirF_yes (c := c) (L := L) h)
  generalize mirF c L = res at *
  obtain ⟨⟨rcc, F⟩, cd⟩ := res
  dsimp only
  obtain ⟨hc1, hc2⟩ := hc
  clear hW0 hC b0 b1 r0 r1 f0 f1 hs hsz
  go_enter Tryd.func29, Tryd.ntmps29
  go_wp2_with fail
  rw [← HW0.out]
  refine HP.out.mono ?_
  rintro e w1 ⟨hB, hR⟩
  have T1 := Lib.hid (T0.out.trans (hB.mono T0.out.size))
  have b0 := Lib.hid (kept hB (Nat.lt_trans (Nat.lt_succ_self _) HZ.out) B0.out)
  have b1 := Lib.hid (kept hB (Nat.lt_trans (Nat.lt_succ_self _) HZ.out) B1.out)
  have r0 := Lib.hid (kept hB HZ.out R0.out)
  have r1 := Lib.hid (kept hB HZ.out R1.out)
  have f0 := Lib.hid ((hB.frozen (p := ⟨w.heap.size + 1, 0, none⟩) HZ.out).trans F0.out)
  have f1 := Lib.hid ((hB.frozen (p := ⟨w.heap.size + 1, 1, none⟩) HZ.out).trans F1.out)
  have Z1 := Lib.hid (Nat.lt_of_lt_of_le HZ.out hB.size)
  rcases hR with ⟨hok, rfl⟩ | ⟨hok, rv, wv, rfl, ho1, ho2, _⟩
  · have hre := HNo.out hok
    simp only [Prod.mk.injEq] at hre
    obtain ⟨⟨rfl, rfl⟩, rfl⟩ := hre
    have A1 : Below w1.heap.size w1 (w1.alloc (.cells #[.int .i64 0, .slice none 0 0, .slice none 0 0] 60)) := (Below.refl _ _).alloc (Nat.le_refl _) _
    have k0 := kept A1 Z1.out r0.out
    have k1 := kept A1 Z1.out r1.out
    have g0 := (A1.frozen (p := ⟨w.heap.size + 1, 0, none⟩) Z1.out).trans f0.out
    have g1 := (A1.frozen (p := ⟨w.heap.size + 1, 1, none⟩) Z1.out).trans f1.out
    have T2 := Lib.hid (T1.out.trans (A1.mono T1.out.size))
    obtain ⟨e0, e1⟩ := res2 (.int .i16 0) (.slice none 0 0) k0 k1
    clear hB hok HP A1 HNo HYe
    unfold pz
    go_wp2_with fail
    refine bodyPost_ret (by simp [results, Tryd.results29, go_sem, e0, e1]; try rfl) rfl ?_
    exact ⟨_, rfl, World.ownsRow_nil _ _ _ _, below_set (below_set T2.out (by omega) _) (by omega) _⟩
  · have hre := HYe.out hok
    simp only [Prod.mk.injEq] at hre
    obtain ⟨⟨rfl, rfl⟩, rfl⟩ := hre
    obtain ⟨hcb, hfine⟩ := okF_parts hok
    have hlen := fine_len hfine
    obtain ⟨ra0, rc0, rfl⟩ : ∃ ra rc, rv = .slice ra L.length rc := ho1.strs.len
    obtain ⟨wa, wc, rfl⟩ : ∃ wa wc, wv = .slice wa (wdsTo rcc L (L.length + 1)).length wc := ho2.ints.len
    generalize (wdsTo rcc L (L.length + 1)).length = mm at *
    have hsrc : ∀ k, k < L.length → ∃ b off, ra0 = some ⟨b, off, none⟩ ∧ b < w1.heap.size ∧ w1.cell? ⟨b, off + k, none⟩ = some (.string (rowAt L k)) := by
      rcases ho1.strs with ⟨_, _, _, rfl⟩ | ⟨b, off, cap, e, h0, hb, hc'⟩
      · intro k hk; simp at hk
      · simp only [Value.slice.injEq] at e
        obtain ⟨rfl, _, _⟩ := e
        exact fun k hk => ⟨b, off, rfl, hb, hc' k hk⟩
    have HSR := Lib.hid hsrc
    have HRS := Lib.hid fun k (hk : k < L.length) => row_size hcb (k := k) fun j hj => hfine j (by omega)
    have HMT := Lib.hid fun i (hi : i < L.length) => mir_take (L := L) hi
    have HMA := Lib.hid (show (L.take L.length).map revT = L.map revT by rw [List.take_length])
    have HML := Lib.hid fun i (hi : i ≤ L.length) => (show ((L.take i).map revT).length = i by rw [List.length_map, List.length_take]; omega)
    have HRV := Lib.hid fun s => (show txB ((List.range s.size).map (fun j => (chAt s (s.size - 1 - j) : Int))) = revT s from rfl)
    obtain ⟨n, hln⟩ : ∃ n, n = L.length := ⟨_, rfl⟩
    rw [← hln] at HMA HRS HMT HML HSR hlen hn ⊢
    obtain ⟨w2, hw2⟩ : ∃ w2, w2 = w1.alloc (.cells #[.int .i64 rcc, .slice ra0 n rc0, .slice wa mm wc] 60) := ⟨_, rfl⟩
    have A1 : Below w1.heap.size w1 w2 := hw2 ▸ (Below.refl _ _).alloc (Nat.le_refl _) _
    have zb : w.heap.size < w1.heap.size := Nat.lt_trans (Nat.lt_succ_self _) Z1.out
    have z12 : w1.heap.size < w2.heap.size := by rw [hw2]; simp
    have pp : w2.cell? ⟨w1.heap.size, 1, none⟩ = some (.slice ra0 n rc0) := by rw [hw2]; simp [go_sem]
    have A2 : Below w2.heap.size w2 (w2.alloc (.cells #[.int .i16 rcc, .slice none 0 0] 27)) := (Below.refl _ _).alloc (Nat.le_refl _) _
    have A12 := A1.trans (A2.mono A1.size)
    have zr2 := Nat.lt_of_lt_of_le Z1.out A1.size
    have M1 : Hid (MB w.heap.size (w.heap.size + 1) w2.heap.size rcc (.slice cs L.length q) (.slice none 0 0) (w2.alloc (.cells #[.int .i16 rcc, .slice none 0 0] 27))) := Lib.hid
      ⟨⟨kept A12 zb b0.out, kept A12 zb b1.out⟩, ⟨kept A12 Z1.out r0.out, kept A12 Z1.out r1.out, (A12.frozen (p := ⟨w.heap.size + 1, 0, none⟩) Z1.out).trans f0.out, (A12.frozen (p := ⟨w.heap.size + 1, 1, none⟩) Z1.out).trans f1.out⟩,
       made2 _ _ _ _, Nat.lt_of_lt_of_le zb A12.size, Nat.lt_of_lt_of_le Z1.out A12.size, by simp⟩
    have T2 := Lib.hid (T1.out.trans (A12.mono T1.out.size))
    have TP := Lib.hid A2
    have pp2 := kept A2 z12 pp
    have ba := kept A1 zb b0.out
    have HSQ : Hid (∀ k, k < n → ∃ b off, ra0 = some ⟨b, off, none⟩ ∧ b < w2.heap.size ∧ w2.cell? ⟨b, off + k, none⟩ = some (.string (rowAt L k))) := Lib.hid fun k hk => by
      obtain ⟨b, off, e, hb, hc'⟩ := HSR.out k hk
      exact ⟨b, off, e, Nat.lt_trans hb z12, kept A1 hb hc'⟩
    have Z2 := Lib.hid (show w.heap.size + 1 < w2.heap.size from Nat.lt_trans Z1.out z12)
    have HW2 := Lib.hid hw2
    obtain ⟨pb, hpb⟩ : ∃ pb, pb = w1.heap.size := ⟨_, rfl⟩
    rw [← hpb] at pp pp2 z12
    have HPB := Lib.hid hpb
    clear hB hok HP A1 A2 A12 HNo HYe ho1 ho2 hsrc hfine hcb hw2 hln zb b0 b1 r0 r1 f0 f1 T0 T1 B0 B1 R0 R1 F0 F1 HZ HSR z12 hpb zr2
    go_upto_region 4 with fail
    rw [← HPB.out, ← HW2.out]
    go_wp2_with fail
    generalize w2.alloc (.cells #[.int .i16 rcc, .slice none 0 0] 27) = w3 at *
    generalize hob : w2.heap.size = ob at *
    have HOB := Lib.hid hob
    have O2 : Hid (OwnT w3 (ob + 1) (.slice none 0 0) ((L.take 0).map revT)) := Lib.hid (World.ownsRow_nil _ _ _ _)
    clear pp pp2 ba hob
    go_loopw [25] (fun i wr => ∃ (k : Nat) (ra : Option Addr) (rn rc : Nat), k ≤ n ∧ i = .int .i64 k ∧ Hid (MB w.heap.size (w.heap.size + 1) ob rcc (.slice cs L.length q) (.slice ra rn rc) wr) ∧ Hid (OwnT wr (ob + 1) (.slice ra rn rc) ((L.take k).map revT)) ∧ Hid (Below w.heap.size w wr) ∧ Hid (Below ob w2 wr)) (fun i _ => n - (intOf i).toNat)
    case atStart => exact ⟨0, none, 0, 0, Nat.zero_le _, rfl, M1, O2, T2, TP⟩
    case round =>
      clear M1 O2 T2 TP
      obtain ⟨i, ra, rn, rc, hi', rfl, hM, hO, hB, hP⟩ := hrel
      obtain ⟨⟨m1, m2⟩, ⟨m3, m4, m5, m6⟩, ⟨m7, m8, m9⟩, _, _, mz⟩ := hM.out
      by_cases hlt : i < n
      · have hltI : (i : Int) < (n : Int) := by omega
        obtain ⟨sb, off, rfl, hsb, hcell⟩ := HSQ.out i hlt
        have s1 := (hP.out.cell (p := ⟨sb, off + i, none⟩) hsb).trans hcell
        have hss := HRS.out i hlt
        have HMi := Lib.hid (HMT.out i hlt)
        have HMl := Lib.hid (HML.out i hi')
        have HMl1 := Lib.hid (HML.out (i + 1) hlt)
        have HRVs := Lib.hid (HRV.out (rowAt L i))
        clear hcell hsb
        generalize rowAt L i = s at *
        have hcv := Lib.run_convert_string_bytes (P := Tryd.prog) wr 9 91 5 s (u := .string) Tryd.underlying9 Tryd.underlying91 Tryd.underlying5
        have hbw := Lib.bytesWorld_below wr 5 s
        have hbt := bat_made wr s
        have M2 := Lib.hid (hM.out.next hbw)
        have O2 := Lib.hid (hO.out.below hbw)
        have T2 := Lib.hid (hB.out.trans (hbw.mono hB.out.size))
        have P2 := Lib.hid (hP.out.trans (hbw.mono (by have := mz; have := hP.out.size; rw [HOB.out] at *; omega)))
        have ZS : Hid (wr.heap.size < (Lib.bytesWorld wr 5 s).heap.size) := Lib.hid (by rw [Lib.bytesWorld_size]; omega)
        have hmz : ob < wr.heap.size := mz
        have HRO := Lib.hid (show ∀ j, (Value.slice ra rn rc).ownBlock = some j → ob + 1 ≤ j ∧ j < wr.heap.size from hO.out.lt)
        have HRE := Lib.hid (reverseB_any wr.heap.size s.size (grownCap wr s.size 0 5) _ (Lib.bytesWorld wr 5 s) hbt (by omega))
        generalize grownCap wr s.size 0 5 = gc at *
        generalize Lib.bytesWorld wr 5 s = wb at *
        obtain ⟨E, hE⟩ : ∃ E, E = wr.heap.size := ⟨_, rfl⟩
        rw [← hE] at hcv ZS hmz HRO HRE
        clear hM hO hB hP m1 m2 m3 m4 m5 m6 m7 m8 m9 mz hbw hbt hE
        go_wp2_with fail
        refine HRE.out.mono ?_
        rintro e w5 ⟨⟨vv, rfl⟩, hbt5, hg5⟩
        have hcv5 := text_bat (cap := gc) hbt5
        rw [HRVs.out] at hcv5
        have hne1 : some w.heap.size ≠ some E := fun e => by have := Option.some.inj e; have := Z2.out; omega
        have hne2 : some (w.heap.size + 1) ≠ some E := fun e => by have := Option.some.inj e; have := Z2.out; omega
        have hne3 : some ob ≠ some E := fun e => by have := Option.some.inj e; omega
        have M5 := Lib.hid (M2.out.grown hg5 hne1 hne2 hne3)
        have O5 := Lib.hid (O2.out.kept hg5 (apartM (v2 := .slice (some ⟨E, 0, none⟩) s.size gc) (fun j hj => (HRO.out j hj).2) (fun j hj => Nat.le_of_eq (Option.some.inj hj))))
        have ZE5 := Lib.hid (Nat.le_trans (Nat.le_of_lt ZS.out) hg5.size)
        have T5 := Lib.hid (T2.out.grown hg5 (by have := Z2.out; have := ZS.out; omega) (fun j hj => by have := Option.some.inj hj; have := Z2.out; omega))
        have P5 := Lib.hid (P2.out.grown hg5 (by have := ZS.out; omega) (fun j hj => by have := Option.some.inj hj; omega))
        have RR : Hid (w5.ownsRow (ob + 1) 9 1 (.slice ra rn rc) i (((L.take i).map revT).map Value.string)) := Lib.hid (by
          have h := O5.out.row
          rwa [HMl.out] at h)
        have HRB := Lib.hid (show ∀ j, (Value.slice ra rn rc).ownBlock = some j → ob + 1 ≤ j from fun j hj => (HRO.out j hj).1)
        obtain ⟨⟨m1, m2⟩, _, ⟨m7, m8, m9⟩, _⟩ := M5.out
        clear hbt5 hg5 hne1 hne2 hne3 M2 O2 T2 P2 hcv s1
        generalize revT s = tx at *
        go_wp2_with (first
          | (at_builtin; refine wpList_append_lies _ rfl _ _ _ rfl (ob + 1) 9 i0 (.string ByteArray.empty) 1 16 Tryd.underlying23 hi hz0 hz1 hz2 rfl (by omega) (.slice ra rn rc) i _ rfl (RR.out.alloc _) ⟨w5.heap.size, 0, none⟩ 1 1 [.string tx] rfl rfl (World.news_of_block (heap_alloc_new w5 _)) (str_oneM _) (by omega) (by unfold maxLen; omega) (by omega) (by have := ZE5.out; simp; omega) (w5.heap.size + 1) (by simp) ?_; intro gg cap w4 hown hgrow hat hlt2; have m8' := ((grown_alO hgrow).cell_far ⟨ob, 1, none⟩ (M5.out.2.2.2.2.2) (farM HRB.out (Nat.lt_succ_self _))).trans M5.out.2.2.1.2.1; have m9' := ((grown_alO hgrow).frozen_far ⟨ob, 1, none⟩ (M5.out.2.2.2.2.2) (farM HRB.out (Nat.lt_succ_self _))).trans M5.out.2.2.1.2.2)
          | fail)
        have G4 := grown_alO hgrow
        have zo : w.heap.size + 1 < ob := by have := Z2.out; omega
        have O4 : Hid (OwnT w4 (ob + 1) (.slice (some ⟨gg, 0, none⟩) (i + 1) cap) ((L.take (i + 1)).map revT)) := by
          unfold OwnT
          rw [HMl1.out, HMi.out, List.map_append]
          exact hown
        have M4 := M5.out.grown G4 (farM HRB.out (by omega)) (farM HRB.out (by omega)) (farM HRB.out (Nat.lt_succ_self _))
        have M6 := Lib.hid (M4.put (by omega) (by omega) (.slice (some ⟨gg, 0, none⟩) (i + 1) cap))
        have T4 := T5.out.grown G4 (by have := ZE5.out; omega) (fun j hj => by have := HRB.out j hj; omega)
        have T6 := Lib.hid (below_set (o := 1) T4 (show w.heap.size ≤ ob by omega) (.slice (some ⟨gg, 0, none⟩) (i + 1) cap))
        have P4 := P5.out.grown G4 (by have := ZE5.out; omega) (fun j hj => by have := HRB.out j hj; omega)
        have P6 := Lib.hid (below_set (o := 1) P4 (Nat.le_refl ob) (.slice (some ⟨gg, 0, none⟩) (i + 1) cap))
        have O6 := Lib.hid (ownsRow_setCell_below (a := ⟨ob, 1, none⟩) O4.out (Nat.lt_succ_self ob) (.slice (some ⟨gg, 0, none⟩) (i + 1) cap))
        clear hown hgrow hat hlt2 G4 m1 m2 m7 m8 m9 M4 T4 P4
        go_wp2
        go_roundw
        case rel => exact ⟨i + 1, _, _, _, by omega, by go_num, M6, O6, T6, P6⟩
        case measure => simp [intOf]; omega
      · obtain rfl : i = n := by omega
        obtain ⟨e0, e1⟩ := res2 (.int .i16 rcc) (.slice ra rn rc) m3 m4
        have HOE := Lib.hid hO.out
        rw [HMA.out] at HOE
        have HBE := Lib.hid hB.out
        have Zr := Lib.hid (show w.heap.size + 1 < ob + 1 by have := Z2.out; omega)
        clear hM hO hB hP
        go_wp2_with fail
        refine bodyPost_ret (by simp [results, Tryd.results29, go_sem, e0, e1]; try rfl) rfl ?_
        exact ⟨_, rfl, OwnT.mono (base := ob + 1) (ownsRow_setCell_below (ownsRow_setCell_below HOE.out Zr.out _) Zr.out _) (by have := Zr.out; omega), below_set (below_set HBE.out (by omega) _) (by omega) _⟩
end Go.Proofs.YtilbadnnmhcdoaaDoor
