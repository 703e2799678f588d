/-
  No statement is proved here: what CardAll answers in the program; condition: at most 1048576 stripes and letters.
-/
import Derived.Test.YtpnfombolnaldaaGreatDoorCardSpec
import Derived.Lib.AtoiErrMem
namespace Go.Proofs.YtpnfombolnaldaaGreatDoor
open Go.ChangeShapes Go.WideShapes Go.ChangeAt Go.RowKit

theorem codes_get2 (s : ByteArray) (k : Nat) (hk : k < s.size) : (codes s).getD k 0 = ((s.data.toList.getD k 0).toNat : Int) := by
  have h : k < s.data.toList.length := by simpa using hk
  rw [codes, List.getD, List.getElem?_map, List.getElem?_eq_getElem h, List.getD, List.getElem?_eq_getElem h]
  rfl
theorem look_yes {P : Program} {w : World} {T K E : TypeId} {B : Nat} {es : Array MapEntry} {clk : Nat} {n : Int} {i : Nat} {val : Value} (hT : P.underlying T = some (.map K E)) (hK : P.underlying K = some (.int .u8))
    (hb : w.heap[B]? = some (.map es clk)) (hf : Instr.findNow (.int .u8) (.int .u8 n) es.toList 0 = some (some (i, val))) :
    (Instr.lookup T (.map (some B)) (.int .u8 n) true).run P w = .ok (.tuple #[val, .bool true]) w := by
  simp [Instr.lookup, run_underlying hT, Result.andThen, MapKept.run_getObj_map hb, MapKept.run_checkKey hK (show MapKept.IsKey (.int .u8) (.int .u8 n) from rfl), findKey_u8 hK hf]
theorem look_no {P : Program} {w : World} {T K E : TypeId} {B : Nat} {es : Array MapEntry} {clk : Nat} {n : Int} {z : Value} (hT : P.underlying T = some (.map K E)) (hK : P.underlying K = some (.int .u8))
    (hz : (zeroValue E).run P w = .ok z w)
    (hb : w.heap[B]? = some (.map es clk)) (hf : Instr.findNow (.int .u8) (.int .u8 n) es.toList 0 = some none) :
    (Instr.lookup T (.map (some B)) (.int .u8 n) true).run P w = .ok (.tuple #[z, .bool false]) w := by
  simp [Instr.lookup, run_underlying hT, Result.andThen, MapKept.run_getObj_map hb, MapKept.run_checkKey hK (show MapKept.IsKey (.int .u8) (.int .u8 n) from rfl), findKey_u8 hK hf, hz]
theorem zeroFn (w : World) : (zeroValue 63).run Tryz.prog w = .ok .nilFunc w := by kernel_rfl

set_option maxRecDepth 100000 in
set_option maxHeartbeats 4000000 in
theorem implCard_any (v : Value) (zs : List Int) (s : ByteArray) (p : Int) (w : World) (h : Ints w v zs) (hn : zs.length ≤ 1048576) :
    Calls Tryz.prog 11 #[v, .string s, .int .i64 p] w fun e w' => ∃ r, e = .returned (.tuple #[r, .int .i64 (cardF zs (codes s) p).2.1, .int .i64 (cardF zs (codes s) p).2.2]) ∧ Own w' w.heap.size r (cardF zs (codes s) p).1 ∧ Below w.heap.size w w' := by
  have hv := valid_any v zs w h hn
  have hcl := codes_length s
  cases h1 : okW zs with
  | false =>
    rw [h1] at hv
    rw [cardF_no h1]
    have HV := Lib.hid hv
    clear hv h h1 hcl
    go_enter Tryz.func11, Tryz.ntmps11
    go_wp2_with fail
    refine HV.out.mono ?_
    rintro e w' ⟨rfl, rfl⟩
    go_wp2_with fail
    go_returns
    exact ⟨_, rfl, World.ownsRow_nil _ _ _ _, Below.refl _ _⟩
  | true =>
    rw [h1] at hv
    have HV := Lib.hid hv
    cases h2 : inB p 0 100 with
    | false =>
      rw [cardF_out h1 h2]
      rcases inB_no h2 with y | y
      · clear hv h h1 h2 hcl
        go_enter Tryz.func11, Tryz.ntmps11
        go_wp2_with fail
        refine HV.out.mono ?_
        rintro e w' ⟨rfl, rfl⟩
        go_wp2_with fail
        go_returns
        exact ⟨_, rfl, World.ownsRow_nil _ _ _ _, Below.refl _ _⟩
      · have y0 : (0 : Int) ≤ p := by omega
        clear hv h h1 h2 hcl
        go_enter Tryz.func11, Tryz.ntmps11
        go_wp2_with fail
        refine HV.out.mono ?_
        rintro e w' ⟨rfl, rfl⟩
        go_wp2_with fail
        go_returns
        exact ⟨_, rfl, World.ownsRow_nil _ _ _ _, Below.refl _ _⟩
    | true =>
      obtain ⟨hp0, hp1⟩ := inB_of h2
      by_cases h3 : 20 < s.size
      · rw [cardF_long h1 h2 (by omega)]
        have h3' : (20 : Int) < (s.size : Int) := by omega
        clear hv h h1 h2 hcl
        go_enter Tryz.func11, Tryz.ntmps11
        go_wp2_with fail
        refine HV.out.mono ?_
        rintro e w' ⟨rfl, rfl⟩
        go_wp2_with fail
        go_returns
        exact ⟨_, rfl, World.ownsRow_nil _ _ _ _, Below.refl _ _⟩
      · rw [cardF_go h1 h2 (by omega)]
        have h3' : (s.size : Int) ≤ 20 := by omega
        have hl := okW_len h1
        have HT := Lib.hid (cardings_any p w)
        have HO := Lib.hid fun wx (hx : Ints wx v zs) => clone_any v zs wx hx hn (by omega)
        have HW := Lib.hid h
        have OK := Lib.hid h1
        have HCG := Lib.hid fun k hk => codes_get2 s k hk
        have HCV := Lib.hid fun wx => Lib.run_convert_string_bytes (P := Tryz.prog) wx 9 22 5 s (u := .string) Tryz.underlying9 Tryz.underlying22 Tryz.underlying5
        obtain ⟨cs, hcs⟩ : ∃ cs, cs = codes s := ⟨_, rfl⟩
        rw [← hcs] at hcl HCG ⊢
        obtain ⟨m, hm⟩ : ∃ m, m = s.size := ⟨_, rfl⟩
        have HM := Lib.hid hm
        rw [← hm] at hcl h3'
        have CL := Lib.hid hcl
        obtain ⟨FIN, hF⟩ : ∃ FIN, FIN = goF p cs zs 0 := ⟨_, rfl⟩
        have HF := Lib.hid hF
        rw [← hF]
        have HP1 := Lib.hid (And.intro hp0 hp1)
        obtain ⟨B, hBe⟩ : ∃ B, B = w.heap.size := ⟨_, rfl⟩
        have HB := Lib.hid hBe
        rw [← hBe] at HT ⊢
        have hms : s.size = m := hm.symm
        clear hv h h1 h2 hcl h3 hl hn hcs hm hF hBe
        go_enter Tryz.func11, Tryz.ntmps11
        go_wp2_with fail
        refine HV.out.mono ?_
        rintro e w' ⟨rfl, rfl⟩
        go_wp2_with fail
        refine HT.out.mono ?_
        rintro e w1 ⟨tb, rfl, htb, hB⟩
        have hW1 := HW.out.below (HB.out ▸ hB)
        have B1 := Lib.hid htb
        have E1 := Lib.hid hB
        clear htb hB HT HV HW hp0 hp1
        go_wp2_with fail
        refine (HO.out w1 hW1).mono ?_
        rintro e w2 ⟨r1, rfl, own, hB⟩
        have S0 : Hid (Own w2 B r1 zs) := own.mono (by rw [HB.out]; exact E1.out.size)
        have B2 := Lib.hid (B1.out.below hB)
        have E2 := Lib.hid (E1.out.trans (hB.mono (by rw [HB.out]; exact E1.out.size)))
        clear own hB HO B1 E1 hW1
        have hcv := HCV.out w2
        obtain ⟨cap, hcap⟩ : ∃ cap, cap = grownCap w2 s.size 0 5 := ⟨_, rfl⟩
        rw [← hcap, hms] at hcv
        have hbw := Lib.bytesWorld_below w2 5 s
        have D3 : Hid (∀ j, j < m → (Lib.bytesWorld w2 5 s).cell? ⟨w2.heap.size, j, none⟩ = some (.int .u8 (cs.getD j 0))) := fun j hj => by
          have h5 := Lib.bytesWorld_cell w2 5 s j (by omega)
          rw [HCG.out j (by omega)]
          exact h5
        have Z3 := Lib.hid (show w2.heap.size < (Lib.bytesWorld w2 5 s).heap.size by rw [Lib.bytesWorld_size]; omega)
        have O3 := Lib.hid (S0.out.below hbw)
        have B3 := Lib.hid (B2.out.below hbw)
        have E3 := Lib.hid (E2.out.trans (hbw.mono (by rw [HB.out]; exact E2.out.size)))
        clear S0 B2 E2 hcap HCV HCG hbw
        generalize Lib.bytesWorld w2 5 s = w3 at hcv D3 Z3 O3 B3 E3
        obtain ⟨g, hg⟩ : ∃ g, g = w2.heap.size := ⟨_, rfl⟩
        rw [← hg] at hcv D3 Z3
        clear hg
        go_wp2_with fail
        clear hcv hms HM
        go_loopw [10, 11, 40] (fun r f i wr => ∃ (k : Nat) (cur : List Int) (F : Int), k ≤ m ∧ i = .int .i64 k ∧ f = .int .i64 F ∧ Hid (Own wr B r cur) ∧ Hid (okW cur = true) ∧ Hid (goF p (cs.drop k) cur F = FIN) ∧ Hid (-12000000 * (k : Int) ≤ F ∧ F ≤ 12000000 * (k : Int)) ∧ Hid (Below B w wr) ∧ Hid (Tbl wr tb p) ∧ Hid (∀ j, j < m → wr.cell? ⟨g, j, none⟩ = some (.int .u8 (cs.getD j 0))) ∧ Hid (g < wr.heap.size)) (fun _ _ i _ => m - (intOf i).toNat)
        case atStart => exact ⟨0, zs, 0, Nat.zero_le _, rfl, rfl, O3, OK, HF.out.symm, ⟨by simp, by simp⟩, E3, B3, D3, Z3⟩
        case round =>
          clear O3 B3 D3 Z3 E3
          obtain ⟨k, cur, F, hk, rfl, rfl, hO, hok, hG, hbd, hE, hT, hD, hZ⟩ := hrel
          by_cases hlt : k < m
          · have hki : (k : Int) < (m : Int) := by omega
            have hcd := hD.out k hlt
            have hd := drop_step (cs := cs) (k := k) (by rw [CL.out]; exact hlt)
            have hg := hG.out
            rw [hd] at hg
            obtain ⟨c, hc⟩ : ∃ c, c = cs.getD k 0 := ⟨_, rfl⟩
            rw [← hc] at hcd hg
            clear hc hd
            have hT2 := hT.out
            obtain ⟨b1, bp, bc, bf, es, clk, rfl, t1, ⟨i1, t2⟩, ⟨i2, t3⟩, ⟨i3, t4⟩, t5, t6, t7, t8, l1, l2, l3, l4⟩ := hT2
            by_cases q1 : c = 114
            · subst q1
              have hlk := look_yes (P := Tryz.prog) Tryz.underlying58 Tryz.underlying5 t1 t2
              have hb : (passR p 114 cur).2.2 = true := rfl
              have HC := Lib.hid (cardR_any _ cur B wr hO.out hok.out)
              obtain ⟨o1, o2, o3, o4⟩ := passR_ok hok.out HP1.out.1 HP1.out.2 hb
              rw [goF_yes hb] at hg
              obtain ⟨ys, hys⟩ : ∃ ys, ys = (passR p 114 cur).1 := ⟨_, rfl⟩
              obtain ⟨q, hqq⟩ : ∃ q, q = (passR p 114 cur).2.1 := ⟨_, rfl⟩
              rw [← hys] at hg o1 o2
              rw [← hqq] at hg o3 o4
              rw [passR_r] at hys hqq
              dsimp only at hys hqq
              rw [← hys] at HC
              have bd := hbd.out
              have hwr : IntKind.i64.wrap (F + q) = F + q := IntWalk.i64_in _ (by omega)
              have HG2 := Lib.hid hg
              have OK2 := Lib.hid o1
              have BD2 : Hid (-12000000 * ((k + 1 : Nat) : Int) ≤ F + q ∧ F + q ≤ 12000000 * ((k + 1 : Nat) : Int)) := ⟨by omega, by omega⟩
              have HQ := Lib.hid hqq
              have HW0 : Hid (wrap64 F = F) := IntWalk.wrap64_in _ (by omega)
              clear hb o1 o2 o3 o4 hys hqq bd hg hG hok hbd t1 t2 t3 t4 t5 t6 t7 t8 l1 l2 l3 l4
              go_wp2_with fail
              refine HC.out.mono ?_
              rintro e w2 ⟨r2, rfl, own, hB⟩
              have O2 : Hid (Own w2 B r2 ys) := own.mono (by rw [HB.out]; exact hE.out.size)
              have E2 := Lib.hid (hE.out.trans (hB.mono (by rw [HB.out]; exact hE.out.size)))
              have T2 := Lib.hid (hT.out.below hB)
              have D2 : Hid (∀ j, j < m → w2.cell? ⟨g, j, none⟩ = some (.int .u8 (cs.getD j 0))) := fun j hj => kept hB hZ.out (hD.out j hj)
              have Z2 := Lib.hid (Nat.lt_of_lt_of_le hZ.out hB.size)
              clear own hB hO hE HC hT hD hZ hlk
              go_wp2_with fail
              go_roundw
              case rel => exact ⟨k + 1, ys, F + q, by omega, by go_num, by rw [HQ.out, Int.add_zero]; exact congrArg (Value.int .i64) HW0.out, O2, OK2, HG2, BD2, E2, T2, D2, Z2⟩
              case measure => simp [intOf]; omega
            · by_cases q2 : c = 102
              · subst q2
                have hlk := look_yes (P := Tryz.prog) Tryz.underlying58 Tryz.underlying5 t1 t4
                have hb : (passR p 102 cur).2.2 = true := rfl
                have HC := Lib.hid (card_f _ cur p bf bp B wr hO.out hok.out HP1.out.1 HP1.out.2 t8 t6 l4 l2)
                obtain ⟨o1, o2, o3, o4⟩ := passR_ok hok.out HP1.out.1 HP1.out.2 hb
                rw [goF_yes hb] at hg
                obtain ⟨ys, hys⟩ : ∃ ys, ys = (passR p 102 cur).1 := ⟨_, rfl⟩
                obtain ⟨q, hqq⟩ : ∃ q, q = (passR p 102 cur).2.1 := ⟨_, rfl⟩
                rw [← hys] at hg o1 o2
                rw [← hqq] at hg o3 o4
                rw [passR_f] at hys hqq
                dsimp only at hys hqq
                rw [← hys, ← hqq] at HC
                have bd := hbd.out
                have hwr : IntKind.i64.wrap (F + q) = F + q := IntWalk.i64_in _ (by omega)
                have HG2 := Lib.hid hg
                have OK2 := Lib.hid o1
                have BD2 : Hid (-12000000 * ((k + 1 : Nat) : Int) ≤ F + q ∧ F + q ≤ 12000000 * ((k + 1 : Nat) : Int)) := ⟨by omega, by omega⟩
                clear hb o1 o2 o3 o4 hys hqq bd hg hG hok hbd t1 t2 t3 t4 t5 t6 t7 t8 l1 l2 l3 l4
                go_wp2_with fail
                refine HC.out.mono ?_
                rintro e w2 ⟨r2, rfl, own, hB⟩
                have O2 : Hid (Own w2 B r2 ys) := own.mono (by rw [HB.out]; exact hE.out.size)
                have E2 := Lib.hid (hE.out.trans (hB.mono (by rw [HB.out]; exact hE.out.size)))
                have T2 := Lib.hid (hT.out.below hB)
                have D2 : Hid (∀ j, j < m → w2.cell? ⟨g, j, none⟩ = some (.int .u8 (cs.getD j 0))) := fun j hj => kept hB hZ.out (hD.out j hj)
                have Z2 := Lib.hid (Nat.lt_of_lt_of_le hZ.out hB.size)
                clear own hB hO hE HC hT hD hZ hlk
                go_wp2_with fail
                go_roundw
                case rel => exact ⟨k + 1, ys, F + q, by omega, by go_num, rfl, O2, OK2, HG2, BD2, E2, T2, D2, Z2⟩
                case measure => simp [intOf]; omega
              · by_cases q3 : c = 99
                · subst q3
                  have hlk := look_yes (P := Tryz.prog) Tryz.underlying58 Tryz.underlying5 t1 t3
                  have hb : (passR p 99 cur).2.2 = true := rfl
                  have HC := Lib.hid (card_c _ cur p bc bp B wr hO.out hok.out HP1.out.1 HP1.out.2 t7 t6 l3 l2)
                  obtain ⟨o1, o2, o3, o4⟩ := passR_ok hok.out HP1.out.1 HP1.out.2 hb
                  rw [goF_yes hb] at hg
                  obtain ⟨ys, hys⟩ : ∃ ys, ys = (passR p 99 cur).1 := ⟨_, rfl⟩
                  obtain ⟨q, hqq⟩ : ∃ q, q = (passR p 99 cur).2.1 := ⟨_, rfl⟩
                  rw [← hys] at hg o1 o2
                  rw [← hqq] at hg o3 o4
                  rw [passR_c] at hys hqq
                  dsimp only at hys hqq
                  rw [← hys, ← hqq] at HC
                  have bd := hbd.out
                  have hwr : IntKind.i64.wrap (F + q) = F + q := IntWalk.i64_in _ (by omega)
                  have HG2 := Lib.hid hg
                  have OK2 := Lib.hid o1
                  have BD2 : Hid (-12000000 * ((k + 1 : Nat) : Int) ≤ F + q ∧ F + q ≤ 12000000 * ((k + 1 : Nat) : Int)) := ⟨by omega, by omega⟩
                  clear hb o1 o2 o3 o4 hys hqq bd hg hG hok hbd t1 t2 t3 t4 t5 t6 t7 t8 l1 l2 l3 l4
                  go_wp2_with fail
                  refine HC.out.mono ?_
                  rintro e w2 ⟨r2, rfl, own, hB⟩
                  have O2 : Hid (Own w2 B r2 ys) := own.mono (by rw [HB.out]; exact hE.out.size)
                  have E2 := Lib.hid (hE.out.trans (hB.mono (by rw [HB.out]; exact hE.out.size)))
                  have T2 := Lib.hid (hT.out.below hB)
                  have D2 : Hid (∀ j, j < m → w2.cell? ⟨g, j, none⟩ = some (.int .u8 (cs.getD j 0))) := fun j hj => kept hB hZ.out (hD.out j hj)
                  have Z2 := Lib.hid (Nat.lt_of_lt_of_le hZ.out hB.size)
                  clear own hB hO hE HC hT hD hZ hlk
                  go_wp2_with fail
                  go_roundw
                  case rel => exact ⟨k + 1, ys, F + q, by omega, by go_num, rfl, O2, OK2, HG2, BD2, E2, T2, D2, Z2⟩
                  case measure => simp [intOf]; omega
                · have hlk := look_no (P := Tryz.prog) Tryz.underlying58 Tryz.underlying5 (zeroFn wr) t1 (t5 c q1 q3 q2)
                  have hb : (passR p c cur).2.2 = false := by rw [passR_no q1 q2 q3]
                  rw [goF_no hb] at hg
                  have HG2 := Lib.hid hg
                  clear hb hg hG hok hbd t1 t2 t3 t4 t5 t6 t7 t8 l1 l2 l3 l4 q1 q2 q3 hT hD hZ hO
                  go_wp2_with fail
                  go_returns
                  rw [← HG2.out]
                  exact ⟨_, rfl, World.ownsRow_nil _ _ _ _, hE.out⟩
          · have hkn : k = m := by omega
            have hg := hG.out
            rw [hkn, List.drop_eq_nil_of_le (by rw [CL.out]; exact Nat.le_refl _)] at hg
            have HG2 := Lib.hid (show (cur, F, 0) = FIN from hg)
            have hki : (m : Int) ≤ (k : Int) := by omega
            clear hg hG hkn hlt hok hbd hT hD hZ
            go_wp2_with fail
            go_returns
            rw [← HG2.out]
            exact ⟨_, rfl, hO.out, hE.out⟩
end Go.Proofs.YtpnfombolnaldaaGreatDoor
