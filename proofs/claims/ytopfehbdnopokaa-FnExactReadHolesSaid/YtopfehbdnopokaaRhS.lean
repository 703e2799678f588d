/-
  No statement is proved here: ReadHoles in the document's own text; condition: at most 1048576 bytes.
-/
import Derived.Test.YtopfehbdnopokaaRhM
namespace Go.Proofs.Ytopfehbdnopokaa
open Go.ChangeShapes Go.WideShapes Go.ChangeAt Go.RowKit

theorem strAtN {ws : List (List UInt8)} {j : Nat} (hj : j < ws.length) : (ws.map fun x => Value.string ⟨x.toArray⟩)[j]? = some (.string ⟨(ws.getD j []).toArray⟩) := by
  rw [List.getElem?_map, List.getD, List.getElem?_eq_getElem hj]
  rfl
theorem OwnS.lines {w : World} {B : Nat} {v : Value} {ws : List (List UInt8)} (h : OwnS w B v ws) (h0 : ws ≠ []) : ∃ g cap, v = .slice (some ⟨g, 0, none⟩) ws.length cap ∧ Texts w g ws := by
  have hr := h.row
  rcases h.2 with ⟨rfl, hn⟩ | ⟨g, cap, cur, rfl, hb, hg, _⟩
  · exact absurd (List.length_eq_zero_iff.1 hn) h0
  · exact ⟨g, cap, rfl, lt_of_block hg, fun j hj => (hr.cellAt j (by omega)).trans (strAtN hj)⟩
theorem setCell_id {w : World} {b o : Nat} {v : Value} (h : w.cell? ⟨b, o, none⟩ = some v) : w.setCell ⟨b, o, none⟩ v = w := by
  have e : (w.setCell ⟨b, o, none⟩ v).heap = w.heap := by
    unfold World.setCell
    apply Array.ext
    · simp
    · intro i h1 h2
      simp only [Array.getElem_modify]
      split
      · next hb =>
        subst hb
        unfold World.cell? at h
        simp only [Array.getElem?_eq_getElem h2] at h
        split
        · next c t f hc =>
          rw [hc] at h
          simp at h ⊢
          obtain ⟨hlt, hv⟩ := Array.getElem?_eq_some_iff.1 h
          rw [hc]
          congr 1
          apply Array.ext
          · simp
          · intro j hj1 hj2
            rw [Array.getElem_setIfInBounds (by simpa using hj1)]
            split
            · next e => subst e; exact hv.symm
            · rfl
        · rfl
      · rfl
  have : w.setCell ⟨b, o, none⟩ v = { w with heap := (w.setCell ⟨b, o, none⟩ v).heap } := rfl
  rw [this, e]
/-- The box of the answer. -/
def RZ (w W : World) : Prop := HAt W w.heap.size (fun _ => 0) ∧ (∀ o : Nat, W.frozen? ⟨w.heap.size, o, none⟩ = false) ∧ Below w.heap.size w W
theorem RZ.next {w W W' : World} (H : RZ w W) (hB : Below W.heap.size W W') : RZ w W' := by
  have hl : w.heap.size < W.heap.size := World.block_lt_of_cell? W _ (H.1 0 (by omega))
  exact ⟨H.1.below hB, fun o => (hB.frozen (p := ⟨w.heap.size, o, none⟩) hl).trans (H.2.1 o), H.2.2.trans (hB.mono H.2.2.size)⟩
theorem RZ.made (w : World) (U : TypeId) : RZ w (w.alloc (.cells #[.int .u8 0, .int .u8 0, .int .u8 0, .int .u8 0, .int .u8 0, .int .u8 0, .int .u8 0, .int .u8 0] U)) :=
  ⟨hat_made w U (fun _ => 0), fun o => by simp [go_sem], by go_grown⟩
theorem byte_is {a : List UInt8} {k c : Nat} (hc : c < 256) : byteAt ⟨a.toArray⟩ k = c ↔ a.getD k 0 = UInt8.ofNat c := by
  unfold byteAt
  constructor
  · intro h
    apply UInt8.toNat_inj.1
    rw [UInt8.toNat_ofNat_of_lt' (by omega)]
    exact h
  · intro h
    show (a.getD k 0).toNat = c
    rw [h, UInt8.toNat_ofNat_of_lt' (by omega)]

set_option maxRecDepth 100000 in
set_option maxHeartbeats 4000000 in
theorem specRead_any (s : ByteArray) (w : World) (hs : s.size ≤ 1048576) :
    Calls Try.prog 5 #[.string s] w fun e w' => e = .returned (.tuple #[hv (readF s.data.toList).1, .int .i64 (readF s.data.toList).2]) ∧ Below w.heap.size w w' := by
  have HSP := Lib.hid fun wx => l01SplitN_any s wx hs
  have HBAD := Lib.hid (readF_bad (l := s.data.toList))
  have HOK := Lib.hid (readF_ok (l := s.data.toList))
  have HTL := Lib.hid fun h k hk => ok_tl (l := s.data.toList) h (y := k) hk
  have HNE := Lib.hid (nl_ne s.data.toList)
  have K0 := Lib.hid (RZ.made w 23)
  generalize readF s.data.toList = q at *
  generalize tlF (toldT s.data.toList) = h at *
  generalize nl s.data.toList = L at *
  clear hs
  by_cases h9 : L.length = 9
  · by_cases hE : L.getD 8 [] = []
    · skip
      go_enter Try.func5, Try.ntmps5
      go_wp2_with fail
      refine (HSP.out _).mono ?_
      rintro e w1 ⟨r, rfl, hO, hB⟩
      obtain ⟨g, cap, rfl, ht⟩ := hO.lines HNE.out
      have K1 := Lib.hid (K0.out.next hB)
      have B1 := Lib.hid (K0.out.next hB).2.2
      clear hB hO HSP K0
      have HT := Lib.hid ht.2
      rw [h9] at HT
      rw [h9]
      have t8 := HT.out 8 (by omega)
      rw [hE] at t8
      clear ht
      have HSZ := Lib.hid fun j => (show (⟨(L.getD j []).toArray⟩ : ByteArray).size = (L.getD j []).length from by simp [ByteArray.size])
      have HIX := Lib.hid fun j k hk wx => idx_str ⟨(L.getD j []).toArray⟩ k hk wx
      obtain ⟨tx, htx⟩ : ∃ tx : Nat → ByteArray, tx = fun j => ⟨(L.getD j []).toArray⟩ := ⟨_, rfl⟩
      have HTX := Lib.hid htx
      have HT2 : Hid (∀ j, j < 9 → w1.cell? ⟨g, j, none⟩ = some (.string (tx j))) := Lib.hid (by rw [htx]; exact HT.out)
      have HSZ2 : Hid (∀ j, (tx j).size = (L.getD j []).length) := Lib.hid (by rw [htx]; exact HSZ.out)
      have HIX2 : Hid (∀ j k, k < (tx j).size → ∀ wx, (Instr.index 9 (.string (tx j)) (.int .i64 (k : Int))).run Try.prog wx = .ok (.int .u8 (byteAt (tx j) k : Nat)) wx) := Lib.hid (by rw [htx]; exact HIX.out)
      have HB1 : Hid (∀ j k, byteAt (tx j) k = 111 ↔ (L.getD j []).getD k 0 = 111) := Lib.hid (by rw [htx]; exact fun j k => byte_is (c := 111) (by decide))
      have HB2 : Hid (∀ j k, byteAt (tx j) k = 46 ↔ (L.getD j []).getD k 0 = 46) := Lib.hid (by rw [htx]; exact fun j k => byte_is (c := 46) (by decide))
      have HB3 := Lib.hid fun j k => byteAt_le (tx j) k
      have hEQ := Lib.hid hE
      have h9Q := Lib.hid h9
      clear htx HT HSZ HIX hE h9 HTX
      have S0 : Hid (HAt (w1.alloc (.cells #[.int .u8 0, .int .u8 0, .int .u8 0, .int .u8 0, .int .u8 0, .int .u8 0, .int .u8 0, .int .u8 0] 23)) w1.heap.size (stP (lnT L) 0 0)) := Lib.hid (HAt.congrP (hat_made w1 23 (fun _ => 0)) fun k _ => (stP_zero (lnT L) k).symm)
      have F0 : Hid (∀ o : Nat, (w1.alloc (.cells #[.int .u8 0, .int .u8 0, .int .u8 0, .int .u8 0, .int .u8 0, .int .u8 0, .int .u8 0, .int .u8 0] 23)).frozen? ⟨w1.heap.size, o, none⟩ = false) := Lib.hid fun o => by simp [go_sem]
      have E0 : Hid (Below w1.heap.size w1 (w1.alloc (.cells #[.int .u8 0, .int .u8 0, .int .u8 0, .int .u8 0, .int .u8 0, .int .u8 0, .int .u8 0, .int .u8 0] 23))) := Lib.hid ((Below.refl _ _).alloc (Nat.le_refl _) _)
      go_wp2_with fail
      go_loopw [6] (fun i wr => ∃ y : Nat, y ≤ 8 ∧ i = .int .i64 y ∧ Hid (∀ k, k < y → lnOk (L.getD k [])) ∧ Hid (HAt wr w1.heap.size (stP (lnT L) y 0)) ∧ Hid (∀ o : Nat, wr.frozen? ⟨w1.heap.size, o, none⟩ = false) ∧ Hid (Below w1.heap.size w1 wr)) (fun i _ => 8 - (intOf i).toNat)
      case atStart => exact ⟨0, by omega, rfl, Lib.hid fun k hk => absurd hk (by omega), S0, F0, E0⟩
      case round =>
        clear S0 F0 E0 t8
        obtain ⟨y, hy, rfl, hN, hS, hF, hB⟩ := hrel
        by_cases hlt : y < 8
        · have hyi : (y : Int) < 8 := by omega
          have ty := kept hB.out (World.block_lt_of_cell? w1 _ (HT2.out y (by omega))) (HT2.out y (by omega))
          have hszy := HSZ2.out y
          by_cases h8 : (L.getD y []).length = 8
          · have hsz8 : ((tx y).size : Int) = 8 := by omega
            have hd : decide ((y : Int) < 8) = true := decide_eq_true hyi
            have hH8 := Lib.hid h8
            have hZY := Lib.hid hszy
            clear h8 hszy
            go_wp2_with fail
            go_loopw [7] (fun i wr => ∃ x : Nat, x ≤ 8 ∧ i = .int .i64 x ∧ Hid (∀ k, k < x → (L.getD y []).getD k 0 = 111 ∨ (L.getD y []).getD k 0 = 46) ∧ Hid (HAt wr w1.heap.size (stP (lnT L) y x)) ∧ Hid (∀ o : Nat, wr.frozen? ⟨w1.heap.size, o, none⟩ = false) ∧ Hid (Below w1.heap.size w1 wr)) (fun i _ => 8 - (intOf i).toNat)
            case atStart => exact ⟨0, by omega, rfl, Lib.hid fun k hk => absurd hk (by omega), hS, hF, hB⟩
            case round =>
              clear hS hF hB ty
              obtain ⟨x, hx, rfl, hM, hS, hF, hB⟩ := hrel
              by_cases hlx : x < 8
              · have hxi : (x : Int) < 8 := by omega
                have ty := kept hB.out (World.block_lt_of_cell? w1 _ (HT2.out y (by omega))) (HT2.out y (by omega))
                have hix := HIX2.out y x (by have := hZY.out; have := hH8.out; omega)
                have hb1 := HB1.out y x
                have hb2 := HB2.out y x
                have hb3 := HB3.out y x
                obtain ⟨c, hc⟩ : ∃ c, c = byteAt (tx y) x := ⟨_, rfl⟩
                rw [← hc] at hix hb1 hb2 hb3
                clear hc
                by_cases h111 : c = 111
                · have hY := Lib.hid (stP_yes (f := lnT L) (y := y) (x := x) hlx (by rw [lnT, hb1.1 h111]; rfl))
                  have HY := Lib.hid ((congrArg _ (pow8P hlx)).trans hY.out)
                  have M2 : Hid (∀ k, k < x + 1 → (L.getD y []).getD k 0 = 111 ∨ (L.getD y []).getD k 0 = 46) := Lib.hid fun k hk => by
                    by_cases e : k = x
                    · rw [e]; exact Or.inl (hb1.1 h111)
                    · exact hM.out k (by omega)
                  have c0 := hS.out y hlt
                  have f0 := hF.out y
                  clear hb1 hb2 hb3
                  subst h111
                  go_wp2_with fail
                  go_roundw
                  case rel => exact ⟨x + 1, by omega, by go_num, M2, Lib.hid (by rw [HY.out]; exact HAt.setP hS.out hlt fun k _ hne => stP_other hne), Lib.hid fun o => (by simpa using hF.out o), Lib.hid (hB.out.setCell (Nat.le_refl _) _)⟩
                  case measure => simp [intOf]; omega
                · have hy1 : ((c : Int) == 111) = false := by rw [beq_eq_false_iff_ne]; omega
                  have hNo := Lib.hid (stP_no (f := lnT L) (y := y) (x := x) (by rw [lnT, beq_eq_false_iff_ne]; exact fun e => h111 (hb1.2 e)))
                  by_cases h46 : c = 46
                  · have M2 : Hid (∀ k, k < x + 1 → (L.getD y []).getD k 0 = 111 ∨ (L.getD y []).getD k 0 = 46) := Lib.hid fun k hk => by
                      by_cases e : k = x
                      · rw [e]; exact Or.inr (hb2.1 h46)
                      · exact hM.out k (by omega)
                    have S2 := Lib.hid (HAt.congrP hS.out fun k _ => (hNo.out k).symm)
                    clear hb1 hb2 hb3 h111 hy1
                    subst h46
                    go_wp2_with fail
                    go_roundw
                    case rel => exact ⟨x + 1, by omega, by go_num, M2, S2, hF, hB⟩
                    case measure => simp [intOf]; omega
                  · have hy2 : ((c : Int) == 46) = false := by rw [beq_eq_false_iff_ne]; omega
                    have hqe := Lib.hid (HBAD.out fun hk => by
                      rcases (hk.2.2 y hlt).2 x hlx with e | e
                      · exact h111 (hb1.2 e)
                      · exact h46 (hb2.2 e))
                    have K2 := Lib.hid (K1.out.next hB.out)
                    clear hb1 hb2 hb3 h111 h46 HBAD HOK HTL HB1 HB2 HB3 HIX2 HSZ2 HT2 hM hS hF hN hNo hEQ h9Q HNE
                    have r0 : wr.cell? ⟨w.heap.size, 0, none⟩ = some (.int .u8 0) := K2.out.1 0 (by omega)
                    have r1 : wr.cell? ⟨w.heap.size, 1, none⟩ = some (.int .u8 0) := K2.out.1 1 (by omega)
                    have r2 : wr.cell? ⟨w.heap.size, 2, none⟩ = some (.int .u8 0) := K2.out.1 2 (by omega)
                    have r3 : wr.cell? ⟨w.heap.size, 3, none⟩ = some (.int .u8 0) := K2.out.1 3 (by omega)
                    have r4 : wr.cell? ⟨w.heap.size, 4, none⟩ = some (.int .u8 0) := K2.out.1 4 (by omega)
                    have r5 : wr.cell? ⟨w.heap.size, 5, none⟩ = some (.int .u8 0) := K2.out.1 5 (by omega)
                    have r6 : wr.cell? ⟨w.heap.size, 6, none⟩ = some (.int .u8 0) := K2.out.1 6 (by omega)
                    have r7 : wr.cell? ⟨w.heap.size, 7, none⟩ = some (.int .u8 0) := K2.out.1 7 (by omega)
                    have s0 := setCell_id r0
                    have s1 := setCell_id r1
                    have s2 := setCell_id r2
                    have s3 := setCell_id r3
                    have s4 := setCell_id r4
                    have s5 := setCell_id r5
                    have s6 := setCell_id r6
                    have s7 := setCell_id r7
                    have fz : ∀ o : Nat, _ := K2.out.2.1
                    have T2 := Lib.hid K2.out.2.2
                    go_wp2
                    refine bodyPost_ret (by simp [results, Try.results5, go_sem, r0, r1, r2, r3, r4, r5, r6, r7]; try rfl) rfl ?_
                    rw [hqe.out]
                    exact ⟨rfl, T2.out⟩
              · obtain rfl : x = 8 := by omega
                have N2 : Hid (∀ k, k < y + 1 → lnOk (L.getD k [])) := Lib.hid fun k hk => by
                  by_cases e : k = y
                  · rw [e]; exact ⟨hH8.out, hM.out⟩
                  · exact hN.out k (by omega)
                have S2 := Lib.hid (HAt.congrP hS.out fun k _ => stP_row (lnT L) y k)
                clear hM hN hS
                go_wp2_with fail
                go_roundw
                case rel => exact ⟨y + 1, by omega, by go_num, N2, S2, hF, hB⟩
                case measure => simp [intOf]; omega
          · have hsz8 : (((tx y).size : Int) == 8) = false := by rw [beq_eq_false_iff_ne]; omega
            have hsz9 : ¬ ((tx y).size : Int) = 8 := by omega
            have hqe := Lib.hid (HBAD.out fun hk => h8 (hk.2.2 y hlt).1)
            have K2 := Lib.hid (K1.out.next hB.out)
            clear h8 hszy HBAD HOK HTL HB1 HB2 HB3 HIX2 HSZ2 HT2 hS hF hN hEQ h9Q HNE
            have r0 : wr.cell? ⟨w.heap.size, 0, none⟩ = some (.int .u8 0) := K2.out.1 0 (by omega)
            have r1 : wr.cell? ⟨w.heap.size, 1, none⟩ = some (.int .u8 0) := K2.out.1 1 (by omega)
            have r2 : wr.cell? ⟨w.heap.size, 2, none⟩ = some (.int .u8 0) := K2.out.1 2 (by omega)
            have r3 : wr.cell? ⟨w.heap.size, 3, none⟩ = some (.int .u8 0) := K2.out.1 3 (by omega)
            have r4 : wr.cell? ⟨w.heap.size, 4, none⟩ = some (.int .u8 0) := K2.out.1 4 (by omega)
            have r5 : wr.cell? ⟨w.heap.size, 5, none⟩ = some (.int .u8 0) := K2.out.1 5 (by omega)
            have r6 : wr.cell? ⟨w.heap.size, 6, none⟩ = some (.int .u8 0) := K2.out.1 6 (by omega)
            have r7 : wr.cell? ⟨w.heap.size, 7, none⟩ = some (.int .u8 0) := K2.out.1 7 (by omega)
            have s0 := setCell_id r0
            have s1 := setCell_id r1
            have s2 := setCell_id r2
            have s3 := setCell_id r3
            have s4 := setCell_id r4
            have s5 := setCell_id r5
            have s6 := setCell_id r6
            have s7 := setCell_id r7
            have fz : ∀ o : Nat, _ := K2.out.2.1
            have T2 := Lib.hid K2.out.2.2
            go_wp2
            refine bodyPost_ret (by simp [results, Try.results5, go_sem, r0, r1, r2, r3, r4, r5, r6, r7]; try rfl) rfl ?_
            rw [hqe.out]
            exact ⟨rfl, T2.out⟩
        · obtain rfl : y = 8 := by omega
          have hk := Lib.hid (show okL L from ⟨h9Q.out, hEQ.out, hN.out⟩)
          have hqe := Lib.hid (HOK.out hk.out)
          have C2 := Lib.hid (HAt.congrP hS.out fun k hk8 => (stP_all (lnT L) hk8).trans (HTL.out hk.out k hk8))
          have K2 := Lib.hid (K1.out.next hB.out)
          clear HBAD HOK HTL HB1 HB2 HB3 HIX2 HSZ2 HT2 hS hF hN hEQ h9Q HNE hk
          have c0 := C2.out 0 (by omega)
          have c1 := C2.out 1 (by omega)
          have c2 := C2.out 2 (by omega)
          have c3 := C2.out 3 (by omega)
          have c4 := C2.out 4 (by omega)
          have c5 := C2.out 5 (by omega)
          have c6 := C2.out 6 (by omega)
          have c7 := C2.out 7 (by omega)
          have r0 := K2.out.1 0 (by omega)
          have r1 := K2.out.1 1 (by omega)
          have r2 := K2.out.1 2 (by omega)
          have r3 := K2.out.1 3 (by omega)
          have r4 := K2.out.1 4 (by omega)
          have r5 := K2.out.1 5 (by omega)
          have r6 := K2.out.1 6 (by omega)
          have r7 := K2.out.1 7 (by omega)
          have fz : ∀ o : Nat, _ := K2.out.2.1
          have T2 := Lib.hid K2.out.2.2
          obtain ⟨e0, e1, e2, e3, e4, e5, e6, e7⟩ := res8P (.int .u8 (h 0)) (.int .u8 (h 1)) (.int .u8 (h 2)) (.int .u8 (h 3)) (.int .u8 (h 4)) (.int .u8 (h 5)) (.int .u8 (h 6)) (.int .u8 (h 7)) r0 r1 r2 r3 r4 r5 r6 r7
          go_wp2
          refine bodyPost_ret (by simp [results, Try.results5, go_sem, e0, e1, e2, e3, e4, e5, e6, e7]; try rfl) rfl ?_
          rw [hqe.out]
          refine ⟨rfl, ?_⟩
          go_grown
          exact T2.out
    · skip
      have hqe := Lib.hid (HBAD.out fun hk => hE hk.2.1)
      clear HBAD HOK HTL
      go_enter Try.func5, Try.ntmps5
      go_wp2_with fail
      refine (HSP.out _).mono ?_
      rintro e w1 ⟨r, rfl, hO, hB⟩
      obtain ⟨g, cap, rfl, ht⟩ := hO.lines HNE.out
      have K1 := Lib.hid (K0.out.next hB)
      clear hB hO HSP K0
      have HT := Lib.hid ht.2
      rw [h9] at HT
      rw [h9]
      have t8 := HT.out 8 (by omega)
      have x8 : (⟨(L.getD 8 []).toArray⟩ : ByteArray).toList.isEmpty = false := by
        rw [ByteArray.toList_mk]
        simpa using hE
      obtain ⟨X, hX⟩ : ∃ X : ByteArray, X = ⟨(L.getD 8 []).toArray⟩ := ⟨_, rfl⟩
      rw [← hX] at t8 x8
      clear HT ht hX hE h9 HNE
      have r0 := K1.out.1 0 (by omega)
      have r1 := K1.out.1 1 (by omega)
      have r2 := K1.out.1 2 (by omega)
      have r3 := K1.out.1 3 (by omega)
      have r4 := K1.out.1 4 (by omega)
      have r5 := K1.out.1 5 (by omega)
      have r6 := K1.out.1 6 (by omega)
      have r7 := K1.out.1 7 (by omega)
      have fz : ∀ o : Nat, _ := K1.out.2.1
      have T2 := Lib.hid K1.out.2.2
      obtain ⟨e0, e1, e2, e3, e4, e5, e6, e7⟩ := res8P (.int .u8 (0)) (.int .u8 (0)) (.int .u8 (0)) (.int .u8 (0)) (.int .u8 (0)) (.int .u8 (0)) (.int .u8 (0)) (.int .u8 (0)) r0 r1 r2 r3 r4 r5 r6 r7
      go_wp2
      refine bodyPost_ret (by simp [results, Try.results5, go_sem, e0, e1, e2, e3, e4, e5, e6, e7]; try rfl) rfl ?_
      rw [hqe.out]
      refine ⟨rfl, ?_⟩
      go_grown
      exact T2.out
  · skip
    have hqe := Lib.hid (HBAD.out fun hk => h9 hk.1)
    clear HBAD HOK HTL
    obtain ⟨m, hm⟩ : ∃ m, m = L.length := ⟨_, rfl⟩
    have hm9 : ((m : Int) == 9) = false := by rw [beq_eq_false_iff_ne]; omega
    have hm8 : ¬ (m : Int) = 9 := by omega
    go_enter Try.func5, Try.ntmps5
    go_wp2_with fail
    refine (HSP.out _).mono ?_
    rintro e w1 ⟨r, rfl, hO, hB⟩
    obtain ⟨g, cap, rfl, ht⟩ := hO.lines HNE.out
    have K1 := Lib.hid (K0.out.next hB)
    rw [← hm]
    clear hB hO ht hm h9 HSP K0
    have r0 := K1.out.1 0 (by omega)
    have r1 := K1.out.1 1 (by omega)
    have r2 := K1.out.1 2 (by omega)
    have r3 := K1.out.1 3 (by omega)
    have r4 := K1.out.1 4 (by omega)
    have r5 := K1.out.1 5 (by omega)
    have r6 := K1.out.1 6 (by omega)
    have r7 := K1.out.1 7 (by omega)
    have fz : ∀ o : Nat, _ := K1.out.2.1
    have T2 := Lib.hid K1.out.2.2
    obtain ⟨e0, e1, e2, e3, e4, e5, e6, e7⟩ := res8P (.int .u8 (0)) (.int .u8 (0)) (.int .u8 (0)) (.int .u8 (0)) (.int .u8 (0)) (.int .u8 (0)) (.int .u8 (0)) (.int .u8 (0)) r0 r1 r2 r3 r4 r5 r6 r7
    go_wp2
    refine bodyPost_ret (by simp [results, Try.results5, go_sem, e0, e1, e2, e3, e4, e5, e6, e7]; try rfl) rfl ?_
    rw [hqe.out]
    refine ⟨rfl, ?_⟩
    go_grown
    exact T2.out
end Go.Proofs.Ytopfehbdnopokaa
