/-
  No statement is proved here: from which loops a loop was made, in the program; condition: its errors lie where its text lays them; at most 1048576 rows of at most 1048576 bytes.
-/
import Derived.Test.YtcdjabhdbobghaaDoorLpB
import Derived.Test.YtcdjabhdbobghaaDoorFoM
import Derived.Test.YtcdjabhdbobghaaDoorZeros
namespace Go.Proofs.YtcdjabhdbobghaaDoor
open Go.ChangeShapes Go.WideShapes Go.ChangeAt Go.RowKit

theorem places_step {t : Int} {n k : Nat} (h : k < n) : (placesF t k ++ List.replicate (n - k) 0).set k (t + k) = placesF t (k + 1) ++ List.replicate (n - (k + 1)) 0 := by
  have hl := placesF_length t k
  rw [List.set_append_right _ _ (by omega), hl, Nat.sub_self, show n - k = (n - (k + 1)) + 1 by omega, List.replicate_succ, List.set_cons_zero, placesF, List.append_assoc]
  rfl
theorem places_len {t : Int} {n k : Nat} (h : k ≤ n) : (placesF t k ++ List.replicate (n - k) 0).length = n := by rw [List.length_append, placesF_length, List.length_replicate]; omega

set_option maxRecDepth 100000 in
set_option maxHeartbeats 4000000 in
theorem places_any (t : Int) (n : Nat) (w : World) (ht : 0 ≤ t ∧ t ≤ 1000000) (hn : n ≤ 1000) :
    Calls Tryd.prog 31 #[.agg #[.int .i64 t, .int .i64 (n : Int)]] w fun e w' => ∃ r, e = .returned r ∧ Own w' w.heap.size r (placesF t n) ∧ Below w.heap.size w w' := by
  obtain ⟨RA, hmk, hmo⟩ := make_zeros n (by omega)
  obtain ⟨W0, hW0⟩ : ∃ W0, W0 = w.alloc (.cells #[.int .i64 t, .int .i64 (n : Int)] 60) := ⟨_, rfl⟩
  have hz : W0.heap.size = w.heap.size + 1 := by rw [hW0]; simp
  have c0 : W0.cell? ⟨w.heap.size, 0, none⟩ = some (.int .i64 t) := by rw [hW0]; simp [go_sem]
  have c1 : W0.cell? ⟨w.heap.size, 1, none⟩ = some (.int .i64 (n : Int)) := by rw [hW0]; simp [go_sem]
  have B0 := Lib.hid (show Below w.heap.size w W0 by rw [hW0]; go_grown)
  have C0 := Lib.hid c0
  have O0 : Hid (Own (W0.alloc (.cells RA 2)) (w.heap.size + 1) (.slice (some ⟨w.heap.size + 1, 0, none⟩) n n) (placesF t 0 ++ List.replicate (n - 0) 0)) := Lib.hid (by
    rw [show placesF t 0 ++ List.replicate (n - 0) 0 = List.replicate n (0 : Int) by simp [placesF]]
    have := hmo W0
    rw [hz] at this
    exact this)
  have T0 := Lib.hid (show Below (w.heap.size + 1) W0 (W0.alloc (.cells RA 2)) from hz ▸ (Below.refl W0.heap.size W0).alloc (Nat.le_refl _) (.cells RA 2))
  have HW0 := Lib.hid hW0
  have HZ := Lib.hid hz
  obtain ⟨ht1, ht2⟩ := ht
  clear hW0 hmo
  go_enter Tryd.func31, Tryd.ntmps31
  go_wp2_with fail
  first | rw [← HW0.out] | skip
  clear hz
  first | go_wp2_with fail | skip
  go_loopw [10] (fun i wr => ∃ k : Nat, i = .int .i64 k ∧ k ≤ n ∧ Hid (Own wr (w.heap.size + 1) (.slice (some ⟨w.heap.size + 1, 0, none⟩) n n) (placesF t k ++ List.replicate (n - k) 0)) ∧ Hid (Below (w.heap.size + 1) W0 wr)) (fun i _ => n - (intOf i).toNat)
  case atStart => exact ⟨0, rfl, Nat.zero_le _, O0, T0⟩
  case round =>
    clear O0 T0
    obtain ⟨k, rfl, hk, hO, hB⟩ := hrel
    have d0 := kept hB.out (Nat.lt_succ_self _) C0.out
    by_cases hlt : k < n
    · have hltI : (k : Int) < (n : Int) := by omega
      have hrow := hO.out.row
      rw [places_len hk] at hrow
      have e0 := (hrow.cellAt k (by omega)).trans (cellOf (by rw [places_len hk]; omega))
      have f0 := hrow.frozenAt k
      have S1 := (hrow.stored k (.int .i64 (t + (k : Int)))).1
      rw [← List.map_set, places_step hlt] at S1
      have HS1 := Lib.hid S1
      have HB1 := Lib.hid (hB.out.setCell (p := ⟨w.heap.size + 1, k, none⟩) (by simp) (.int .i64 (t + (k : Int))))
      clear hO hB hrow S1
      go_wp2
      go_roundw
      case rel => exact ⟨k + 1, by go_num, by omega, Lib.hid (by unfold Own; rw [places_len (by omega)]; exact HS1.out), HB1⟩
      case measure => simp [intOf]; omega
    · obtain rfl : k = n := by omega
      have hO2 : Own wr (w.heap.size + 1) (.slice (some ⟨w.heap.size + 1, 0, none⟩) k k) (placesF t k) := by
        have := hO.out
        rw [Nat.sub_self, List.replicate_zero, List.append_nil] at this
        exact this
      have HO2 := Lib.hid hO2
      have HBE := Lib.hid (B0.out.trans (hB.out.mono (Nat.le_succ _)))
      clear hO hB hO2
      go_wp2
      go_ret
      exact ⟨_, rfl, HO2.out.mono (Nat.le_succ _), HBE.out⟩

set_option maxRecDepth 100000 in
set_option maxHeartbeats 16000000 in
theorem implFrom_any (p : Nat → Addr) (c : Int) (v : Value) (L : List ByteArray) (r a : Int) (w : World) (hs : Sent w p) (hc : -32768 ≤ c ∧ c ≤ 32767) (h : Strs w v L) (hn : L.length ≤ 1048576) (hsz : ∀ j, j < L.length → (rowAt L j).size ≤ 1048576) (hr : -32768 ≤ r ∧ r ≤ 32767) (ha : -32768 ≤ a ∧ a ≤ 32767) :
    Calls Tryd.prog 13 #[.agg #[.int .i16 c, v], .agg #[.int .i16 r, .int .i16 a]] w fun e w' => ∃ x, e = .returned (.tuple #[x, .int .i64 (fromF c L r a).2]) ∧ Own w' w.heap.size x (fromF c L r a).1 ∧ Below w.heap.size w w' := by
  obtain ⟨W0, hW0⟩ : ∃ W0, W0 = (w.alloc (.cells #[.int .i16 c, v] 31)).alloc (.cells #[.int .i16 r, .int .i16 a] 33) := ⟨_, rfl⟩
  have B0 : Hid (Below w.heap.size w W0) := Lib.hid (by rw [hW0]; go_grown)
  have k0 : W0.cell? ⟨w.heap.size + 1, 0, none⟩ = some (.int .i16 r) := by rw [hW0]; simp [go_sem]
  have k1 : W0.cell? ⟨w.heap.size + 1, 1, none⟩ = some (.int .i16 a) := by rw [hW0]; simp [go_sem]
  have HZ := Lib.hid (show w.heap.size + 1 < W0.heap.size by rw [hW0]; simp)
  have K0 := Lib.hid k0
  have K1 := Lib.hid k1
  have HP := Lib.hid (piece_any p c v L (.slice none 0 0) true _ (hs.below B0.out) hc (h.below B0.out) hn hsz (fun wx _ => check0_any wx))
  have HY := Lib.hid (show fromF c L r a = if loopF c L r a = 0 then (if r = 0 then ([], 0) else (fromTo (rowAt L (r.toNat - 1)) a (rowAt L (r.toNat - 1)).size, 0)) else ([], loopF c L r a) from rfl)
  have HLF := Lib.hid (show loopF c L r a = if okF c L = true then (if isLoop c L r a = true then 0 else 2) else 1 from rfl)
  generalize fromF c L r a = R0 at *
  obtain ⟨a1, cp, rfl⟩ := h.len
  have HW0 := Lib.hid hW0
  clear hs h hn hsz hc k0 k1 hW0
  go_enter Tryd.func13, Tryd.ntmps13
  go_wp2_with fail
  first | rw [← HW0.out] | skip
  refine HP.out.mono ?_
  rintro e w1 ⟨hB, hR⟩
  have B1 := Lib.hid (B0.out.trans (hB.mono B0.out.size))
  have l0 := kept hB HZ.out K0.out
  have l1 := kept hB HZ.out K1.out
  have Z1 := Lib.hid (Nat.lt_of_lt_of_le HZ.out hB.size)
  rcases hR with ⟨hok, rfl⟩ | ⟨hok, rv, wv, rfl, ho1, ho2, _⟩
  · rw [hok] at HLF
    have hre := HY.out
    have h1 : loopF c L r a = 1 := HLF.out.trans (if_neg (by decide))
    rw [h1, if_neg (by decide)] at hre
    subst hre
    clear hB hok HP HY HLF
    unfold pz
    go_wp2
    go_ret2
    exact ⟨_, rfl, World.ownsRow_nil _ _ _ _, B1.out.alloc B1.out.size _⟩
  · obtain ⟨wa, wc, rfl⟩ : ∃ wa wc, wv = .slice wa (wdsTo c L (L.length + 1)).length wc := ho2.ints.len
    obtain ⟨ra, rc, rfl⟩ : ∃ ra rc, rv = .slice ra L.length rc := ho1.strs.len
    generalize (wdsTo c L (L.length + 1)).length = m at *
    have A2 : Below w1.heap.size w1 (w1.alloc (.cells #[.int .i64 c, .slice ra L.length rc, .slice wa m wc] 53)) := (Below.refl w1.heap.size w1).alloc (Nat.le_refl _) _
    have HO := Lib.hid (ho1.strs.below A2)
    have HI := Lib.hid (ho2.ints.below A2)
    have X2 : Hid (Lb w (w1.alloc (.cells #[.int .i64 c, .slice ra L.length rc, .slice wa m wc] 53)) (w.heap.size + 1) w1.heap.size r a (.int .i64 c) (.slice ra L.length rc) (.slice wa m wc)) :=
      Lib.hid ⟨kept A2 Z1.out l0, kept A2 Z1.out l1, by simp [go_sem], by simp [go_sem], by simp [go_sem], B1.out.trans (A2.mono B1.out.size), Nat.lt_of_lt_of_le Z1.out A2.size, by simp⟩
    obtain ⟨hcb, hfine⟩ := okF_parts hok
    have hlen := fine_len hfine
    have HFI := Lib.hid hfine
    have HCB := Lib.hid hcb
    have HHas := Lib.hid fun wx (hx : Ints wx (.slice wa m wc) (wdsTo c L (L.length + 1))) => implHas_any c L ra wa rc L.length m wc r a wx hok rfl hx hr ha
    rw [hok, if_pos rfl] at HLF
    obtain ⟨n, hln⟩ : ∃ n, n = L.length := ⟨_, rfl⟩
    have HL := Lib.hid hln
    rw [← hln] at HO X2 hlen HHas HI
    have eL : (Value.slice ra L.length rc) = .slice ra n rc := by rw [HL.out]
    rw [eL]
    clear hB hok HP ho1 ho2 hcb hfine hln eL A2 l0 l1
    obtain ⟨b0, b1, q0, q1, q2, _, _, _⟩ := X2.out
    go_wp2_with fail
    generalize w1.alloc (.cells #[.int .i64 c, .slice ra n rc, .slice wa m wc] 53) = w2 at *
    generalize w1.heap.size = pb at *
    refine (HHas.out _ HI.out).mono ?_
    rintro e w3 ⟨rfl, hB⟩
    have X3 := Lib.hid (X2.out.next hB)
    have O3 := Lib.hid (HO.out.below hB)
    clear b0 b1 q0 q1 q2 X2 HO HI hB HHas
    obtain ⟨b0, b1, q0, q1, q2, _, _, _⟩ := X3.out
    cases hil : isLoop c L r a with
    | false =>
      rw [hil, if_neg (by decide)] at HLF
      have hre := HY.out
      rw [HLF.out, if_neg (by decide)] at hre
      subst hre
      clear HY HLF hil
      go_wp2
      go_ret2
      exact ⟨_, rfl, World.ownsRow_nil _ _ _ _, X3.out.under⟩
    | true =>
      rw [hil, if_pos rfl] at HLF
      have hre := HY.out
      rw [HLF.out, if_pos rfl] at hre
      have hip := hil
      unfold isLoop at hip
      rw [Bool.and_eq_true] at hip
      obtain ⟨hr1, hr2⟩ := inB_of hip.1
      obtain ⟨ha1, ha2⟩ := inB_of hip.2
      obtain ⟨R, rfl⟩ : ∃ R : Nat, r = (R : Int) := ⟨r.toNat, by omega⟩
      rw [Int.toNat_natCast] at ha2 hre
      have hw1 : IntKind.i64.wrap (R : Int) = (R : Int) := (IntWalk.i64_in _ (by omega)).trans (by omega)
      have HRE := Lib.hid hre
      by_cases hRn : R = 0
      · have hre2 := HRE.out.trans (if_pos (by omega))
        subst hre2
        subst hRn
        have HN := Lib.hid fun wx => stepsNo_any c ra wa rc m wc n 0 wx (by omega)
        clear HY HLF hil hip hre HRE hr ha hr1 hr2
        go_wp2_with fail
        refine (HN.out _).mono ?_
        rintro e w4 ⟨rfl, hB⟩
        have X4 := Lib.hid (X3.out.next hB)
        clear hB
        go_wp2
        go_rounds 1
        go_ret2
        exact ⟨_, rfl, World.ownsRow_nil _ _ _ _, X4.out.under⟩
      · have hre2 := HRE.out.trans (if_neg (by omega))
        have HR20 := hre2
        obtain ⟨R, rfl⟩ : ∃ R' : Nat, R = R' + 1 := ⟨R - 1, by omega⟩
        rw [Nat.add_sub_cancel] at HR20
        have hRl : R < n := by have := HL.out; omega
        obtain ⟨hst, _, _, _, _⟩ := canB_parts (HFI.out R (by rw [← HL.out]; exact hRl))
        have hsz := row_size HCB.out (k := R) fun j hj => HFI.out j (by have := HL.out; omega)
        have HN := Lib.hid fun wx (hx : Strs wx (.slice ra n rc) L) => stepsYes_any c ra wa rc m wc n L R ((R + 1 : Nat) : Int) wx hx HL.out hlen hRl (by omega) hst hsz
        have HMB := Lib.hid fun k => makes_bd (rowAt L R) k
        have HMX := Lib.hid fun k => mk_bd (chAt (rowAt L R) k)
        have HMU := Lib.hid fun k => (show makesAt (rowAt L R) a k = (decide (sumB mk (rowAt L R) k ≤ a) && decide (a < sumB mk (rowAt L R) k + mk (chAt (rowAt L R) k))) from rfl)
        have HSB := Lib.hid fun k (hk : k ≤ (rowAt L R).size) => takes_bd (s := rowAt L R) (k := k) fun j hj => allK_get hst (by omega)
        have HTB := Lib.hid fun k (hk : k < (rowAt L R).size) => tk_bd (allK_get hst hk)
        have HTK := Lib.hid fun k (h2 : makesAt (rowAt L R) a k = true) h3 => fromTo_at (s := rowAt L R) (a := a) h2 (rowAt L R).size h3
        have HTN := Lib.hid fun (h : ∀ j, j < (rowAt L R).size → makesAt (rowAt L R) a j = false) => fromTo_none (s := rowAt L R) (a := a) h
        have HR2 := Lib.hid HR20
        clear HY HLF hil hip hre HRE hr hst hre2 HR20 HFI HCB hr1 hr2 hRn
        generalize rowAt L R = s at *
        have hsz1 : (s.size : Int) ≤ 120 := by omega
        obtain ⟨sz, hsz0⟩ : ∃ sz, sz = s.size := ⟨_, rfl⟩
        rw [← hsz0] at hsz1 hsz HN HSB HTB HTK HTN HR2
        clear hsz0
        have ha0 := ha1
        clear ha2
        go_wp2_with fail
        refine (HN.out _ O3.out).mono ?_
        rintro e w4 ⟨x, rfl, hO, hB⟩
        have X4 := Lib.hid (X3.out.next hB)
        have hO2 := Lib.hid hO
        obtain ⟨sa, sc, rfl⟩ : ∃ sa sc, x = .slice sa sz sc := by
          rcases hO.2 with ⟨e, hh⟩ | ⟨g', cap', cur, e, hb', hg', hle, _⟩
          · exact ⟨none, 0, by rw [e]; simp; omega⟩
          · exact ⟨_, _, e⟩
        clear hB hO b0 b1 q0 q1 q2 X3 O3 HN
        go_wp2_with fail
        go_loopw [28] (fun i wr => ∃ k : Nat, k ≤ sz ∧ i = .int .i64 k ∧ Hid (Lb w wr (w.heap.size + 1) pb ((R + 1 : Nat) : Int) a (.int .i64 c) (.slice ra n rc) (.slice wa m wc)) ∧ Hid (OwnSt wr w3.heap.size (.slice sa sz sc) s sz) ∧ Hid (∀ j, j < k → makesAt s a j = false)) (fun i _ => sz - (intOf i).toNat)
        case atStart => exact ⟨0, Nat.zero_le _, rfl, X4, hO2, fun j hj => absurd hj (Nat.not_lt_zero j)⟩
        case round =>
          clear X4 hO2
          obtain ⟨k, hk, rfl, hX, hO, hA⟩ := hrel
          by_cases hlt : k < sz
          · obtain ⟨g, rfl, hg, c0, c1, c2, c3⟩ := step_cells hO.out hlt
            obtain ⟨b0, b1, _, _, _, _, hlb, _⟩ := hX.out
            have HSB2 := HSB.out k hk
            have HTB2 := HTB.out k hlt
            have HMB2 := HMB.out k
            have HMX2 := HMX.out k
            have HMU2 := Lib.hid (HMU.out k)
            have HTK2 := Lib.hid fun h2 => HTK.out k h2 hlt
            have A5 : Below wr.heap.size wr (wr.alloc (.cells #[.int .i64 (sumB tk s k), .int .i64 (tk (chAt s k)), .int .i64 (sumB mk s k), .int .i64 (mk (chAt s k))] 62)) := (Below.refl _ _).alloc (Nat.le_refl _) _
            have X5 := Lib.hid (hX.out.next A5)
            have O5 := Lib.hid (kept_step hO.out A5)
            have b5 := kept A5 hlb b1
            have HC := Lib.hid fun wx => spanHas_any (sumB mk s k) (mk (chAt s k)) a wx (by omega) (by omega) (by omega)
            have HPL := Lib.hid fun wx => places_any (sumB tk s k) (tk (chAt s k)).toNat wx (by omega) (by omega)
            rw [show (((tk (chAt s k)).toNat : Nat) : Int) = tk (chAt s k) by omega] at HPL
            have HA2 := Lib.hid fun (h : makesAt s a k = false) => (show ∀ j, j < k + 1 → makesAt s a j = false from fun j hj => by
              by_cases e : j = k
              · subst e; exact h
              · exact hA.out j (by omega))
            have hw2 : IntKind.i64.wrap a = a := (IntWalk.i64_in _ (by omega)).trans (by omega)
            generalize makesAt s a k = mA at *
            clear hA A5 hO hX
            obtain ⟨t, ht⟩ : ∃ t, t = sumB tk s k := ⟨_, rfl⟩
            obtain ⟨xt, hxt⟩ : ∃ t, t = tk (chAt s k) := ⟨_, rfl⟩
            rw [← ht] at HTK2 HPL X5 O5 b5 c0
            rw [← hxt] at HTK2 HPL X5 O5 b5 c1
            clear ht hxt
            obtain ⟨um, hum⟩ : ∃ t, t = sumB mk s k := ⟨_, rfl⟩
            obtain ⟨xm, hxm⟩ : ∃ t, t = mk (chAt s k) := ⟨_, rfl⟩
            rw [← hum] at HMU2 HC X5 O5 b5 c2
            rw [← hxm] at HMU2 HC X5 O5 b5 c3
            clear hum hxm
            rw [← HMU2.out] at HC
            clear HMU2
            go_wp2_with fail
            refine (HC.out _).mono ?_
            rintro e w6 ⟨rfl, rfl⟩
            have A6 : Below (wr.alloc (.cells #[.int .i64 t, .int .i64 xt, .int .i64 um, .int .i64 xm] 62)).heap.size (wr.alloc (.cells #[.int .i64 t, .int .i64 xt, .int .i64 um, .int .i64 xm] 62)) ((wr.alloc (.cells #[.int .i64 t, .int .i64 xt, .int .i64 um, .int .i64 xm] 62)).alloc (.cells #[.int .i64 um, .int .i64 xm] 60)) := (Below.refl _ _).alloc (Nat.le_refl _) _
            have X6 := Lib.hid (X5.out.next A6)
            have O6 := Lib.hid (kept_step O5.out A6)
            clear A6 X5 O5 b5 c0 c1 c2 c3
            cases mA with
            | true =>
              have HK := Lib.hid (HTK2.out rfl)
              rw [HK.out] at HR2
              have hre3 := HR2.out
              subst hre3
              clear HTK2 HA2 HK HR2
              go_wp2_with fail
              refine (HPL.out _).mono ?_
              rintro e w7 ⟨x7, rfl, own, hB⟩
              have X7 := Lib.hid (X6.out.next hB)
              have OW := Lib.hid (Own.mono own X6.out.under.size)
              clear own hB X6
              go_wp2
              go_ret2
              exact ⟨_, rfl, OW.out, X7.out.under⟩
            | false =>
              have HA3 := Lib.hid (HA2.out rfl)
              clear HTK2 HA2
              go_wp2
              go_roundw
              case rel => exact ⟨k + 1, by omega, by go_num, X6, O6, HA3⟩
              case measure => simp [intOf]; omega
          · have hkn : k = sz := by omega
            subst hkn
            have hre3 := HR2.out
            rw [HTN.out hA.out] at hre3
            subst hre3
            go_wp2
            go_ret2
            exact ⟨_, rfl, World.ownsRow_nil _ _ _ _, hX.out.under⟩
end Go.Proofs.YtcdjabhdbobghaaDoor
