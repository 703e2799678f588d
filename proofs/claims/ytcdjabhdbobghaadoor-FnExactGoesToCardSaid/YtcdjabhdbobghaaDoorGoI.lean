/-
  No statement is proved here: which stitch takes a loop, in the program; condition: its errors lie where its text lays them; at most 1048576 rows of at most 1048576 bytes.
-/
import Derived.Test.YtcdjabhdbobghaaDoorLpI
import Derived.Deep.RegionWith
namespace Go.Proofs.YtcdjabhdbobghaaDoor
open Go.ChangeShapes Go.WideShapes Go.ChangeAt Go.RowKit

/-- The boxes of a loop and of a piece. -/
def Lb (w W : World) (lb pb : Nat) (r a : Int) (x y z : Value) : Prop :=
  W.cell? ⟨lb, 0, none⟩ = some (.int .i16 r) ∧ W.cell? ⟨lb, 1, none⟩ = some (.int .i16 a) ∧ W.cell? ⟨pb, 0, none⟩ = some x ∧ W.cell? ⟨pb, 1, none⟩ = some y ∧ W.cell? ⟨pb, 2, none⟩ = some z ∧ Below w.heap.size w W ∧ lb < W.heap.size ∧ pb < W.heap.size
theorem Lb.next {w W w' : World} {lb pb : Nat} {r a : Int} {x y z : Value} (h : Lb w W lb pb r a x y z) (hB : Below W.heap.size W w') : Lb w w' lb pb r a x y z := by
  obtain ⟨h1, h2, h3, h4, h5, h6, h7, h8⟩ := h
  exact ⟨kept hB h7 h1, kept hB h7 h2, kept hB h8 h3, kept hB h8 h4, kept hB h8 h5, h6.trans (hB.mono h6.size), Nat.lt_of_lt_of_le h7 hB.size, Nat.lt_of_lt_of_le h8 hB.size⟩
theorem Lb.under {w W : World} {lb pb : Nat} {r a : Int} {x y z : Value} (h : Lb w W lb pb r a x y z) : Below w.heap.size w W := h.2.2.2.2.2.1

theorem step_cells {w : World} {B n : Nat} {s : ByteArray} {sa : Option Addr} {sc : Nat} (h : OwnSt w B (.slice sa n sc) s n) {k : Nat} (hk : k < n) : ∃ g, sa = some ⟨g, 0, none⟩ ∧ g < w.heap.size ∧
    w.cell? ⟨g, k * 4, none⟩ = some (.int .i64 (sumB tk s k)) ∧ w.cell? ⟨g, k * 4 + 1, none⟩ = some (.int .i64 (tk (chAt s k))) ∧ w.cell? ⟨g, k * 4 + 2, none⟩ = some (.int .i64 (sumB mk s k)) ∧ w.cell? ⟨g, k * 4 + 3, none⟩ = some (.int .i64 (mk (chAt s k))) := by
  have hl := stepC_length s n
  obtain ⟨g, cap, e, hg, hb⟩ : ∃ g cap, Value.slice sa n sc = .slice (some ⟨g, 0, none⟩) n cap ∧ g < w.heap.size ∧ w.ownsRow B 62 4 (.slice (some ⟨g, 0, none⟩) n cap) n (stepC s n) := by
    rcases h.2 with ⟨_, hh⟩ | ⟨g', cap', cur, e, hb', hg', r⟩
    · omega
    · exact ⟨g', cap', e, lt_of_block hg', h.1, .inr ⟨g', cap', cur, rfl, hb', hg', r⟩⟩
  simp only [Value.slice.injEq] at e
  obtain ⟨c0, c1, c2, c3⟩ := stepC_get s n k hk
  exact ⟨g, e.1, hg, (hb.cellAt _ (by omega)).trans c0, (hb.cellAt _ (by omega)).trans c1, (hb.cellAt _ (by omega)).trans c2, (hb.cellAt _ (by omega)).trans c3⟩

set_option maxRecDepth 100000 in
set_option maxHeartbeats 16000000 in
theorem implGoes_any (p : Nat → Addr) (c : Int) (v : Value) (L : List ByteArray) (r a : Int) (w : World) (hs : Sent w p) (hc : -32768 ≤ c ∧ c ≤ 32767) (h : Strs w v L) (hn : L.length ≤ 1048576) (hsz : ∀ j, j < L.length → (rowAt L j).size ≤ 1048576) (hr : -32768 ≤ r ∧ r ≤ 32767) (ha : -32768 ≤ a ∧ a ≤ 32767) :
    Calls Tryd.prog 10 #[.agg #[.int .i16 c, v], .agg #[.int .i16 r, .int .i16 a]] w fun e w' => e = .returned (.tuple #[.int .i64 (goesF c L r a).1, .int .i64 (goesF c L r a).2]) ∧ Below w.heap.size w w' := by
  obtain ⟨W0, hW0⟩ : ∃ W0, W0 = (w.alloc (.cells #[.int .i16 c, v] 31)).alloc (.cells #[.int .i16 r, .int .i16 a] 33) := ⟨_, rfl⟩
  have B0 : Hid (Below w.heap.size w W0) := Lib.hid (by rw [hW0]; go_grown)
  have k0 : W0.cell? ⟨w.heap.size + 1, 0, none⟩ = some (.int .i16 r) := by rw [hW0]; simp [go_sem]
  have k1 : W0.cell? ⟨w.heap.size + 1, 1, none⟩ = some (.int .i16 a) := by rw [hW0]; simp [go_sem]
  have HZ := Lib.hid (show w.heap.size + 1 < W0.heap.size by rw [hW0]; simp)
  have K0 := Lib.hid k0
  have K1 := Lib.hid k1
  have HP := Lib.hid (piece_any p c v L (.slice none 0 0) true _ (hs.below B0.out) hc (h.below B0.out) hn hsz (fun wx _ => check0_any wx))
  have HY := Lib.hid (show goesF c L r a = if loopF c L r a = 0 then (if r = (L.length : Int) then (0, 6) else (takerTo (rowAt L r.toNat) a (rowAt L r.toNat).size, 0)) else (0, loopF c L r a) from rfl)
  have HLF := Lib.hid (show loopF c L r a = if okF c L = true then (if isLoop c L r a = true then 0 else 2) else 1 from rfl)
  generalize goesF c L r a = R0 at *
  obtain ⟨a1, cp, rfl⟩ := h.len
  have HW0 := Lib.hid hW0
  clear hs h hn hsz hc k0 k1 hW0
  go_enter Tryd.func10, Tryd.ntmps10
  go_wp2_with fail
  first | rw [← HW0.out] | skip
  refine HP.out.mono ?_
  rintro e w1 ⟨hB, hR⟩
  have B1 := Lib.hid (B0.out.trans (hB.mono B0.out.size))
  have l0 := kept hB HZ.out K0.out
  have l1 := kept hB HZ.out K1.out
  have Z1 := Lib.hid (Nat.lt_of_lt_of_le HZ.out hB.size)
  rcases hR with ⟨hok, rfl⟩ | ⟨hok, rv, wv, rfl, ho1, ho2, _⟩
  · rw [hok] at HLF
    have hre := HY.out
    have h1 : loopF c L r a = 1 := HLF.out.trans (if_neg (by decide))
    rw [h1, if_neg (by decide)] at hre
    subst hre
    clear hB hok HP HY HLF
    unfold pz
    go_wp2
    go_ret2
    exact ⟨rfl, B1.out.alloc B1.out.size _⟩
  · obtain ⟨wa, wc, rfl⟩ : ∃ wa wc, wv = .slice wa (wdsTo c L (L.length + 1)).length wc := ho2.ints.len
    obtain ⟨ra, rc, rfl⟩ : ∃ ra rc, rv = .slice ra L.length rc := ho1.strs.len
    generalize (wdsTo c L (L.length + 1)).length = m at *
    have A2 : Below w1.heap.size w1 (w1.alloc (.cells #[.int .i64 c, .slice ra L.length rc, .slice wa m wc] 53)) := (Below.refl w1.heap.size w1).alloc (Nat.le_refl _) _
    have HO := Lib.hid (ho1.strs.below A2)
    have HI := Lib.hid (ho2.ints.below A2)
    have X2 : Hid (Lb w (w1.alloc (.cells #[.int .i64 c, .slice ra L.length rc, .slice wa m wc] 53)) (w.heap.size + 1) w1.heap.size r a (.int .i64 c) (.slice ra L.length rc) (.slice wa m wc)) :=
      Lib.hid ⟨kept A2 Z1.out l0, kept A2 Z1.out l1, by simp [go_sem], by simp [go_sem], by simp [go_sem], B1.out.trans (A2.mono B1.out.size), Nat.lt_of_lt_of_le Z1.out A2.size, by simp⟩
    obtain ⟨hcb, hfine⟩ := okF_parts hok
    have hlen := fine_len hfine
    have HFI := Lib.hid hfine
    have HCB := Lib.hid hcb
    have HHas := Lib.hid fun wx (hx : Ints wx (.slice wa m wc) (wdsTo c L (L.length + 1))) => implHas_any c L ra wa rc L.length m wc r a wx hok rfl hx hr ha
    rw [hok, if_pos rfl] at HLF
    obtain ⟨n, hln⟩ : ∃ n, n = L.length := ⟨_, rfl⟩
    have HL := Lib.hid hln
    rw [← hln] at HY HO X2 hlen HHas HI
    have eL : (Value.slice ra L.length rc) = .slice ra n rc := by rw [HL.out]
    rw [eL]
    clear hB hok HP ho1 ho2 hcb hfine hln eL A2 l0 l1
    obtain ⟨b0, b1, q0, q1, q2, _, _, _⟩ := X2.out
    go_wp2_with fail
    generalize w1.alloc (.cells #[.int .i64 c, .slice ra n rc, .slice wa m wc] 53) = w2 at *
    generalize w1.heap.size = pb at *
    refine (HHas.out _ HI.out).mono ?_
    rintro e w3 ⟨rfl, hB⟩
    have X3 := Lib.hid (X2.out.next hB)
    have O3 := Lib.hid (HO.out.below hB)
    clear b0 b1 q0 q1 q2 X2 HO HI hB HHas
    obtain ⟨b0, b1, q0, q1, q2, _, _, _⟩ := X3.out
    cases hil : isLoop c L r a with
    | false =>
      rw [hil, if_neg (by decide)] at HLF
      have hre := HY.out
      rw [HLF.out, if_neg (by decide)] at hre
      subst hre
      clear HY HLF hil
      go_wp2
      go_ret2
      exact ⟨rfl, X3.out.under⟩
    | true =>
      rw [hil, if_pos rfl] at HLF
      have hre := HY.out
      rw [HLF.out, if_pos rfl] at hre
      have hip := hil
      unfold isLoop at hip
      rw [Bool.and_eq_true] at hip
      obtain ⟨hr1, hr2⟩ := inB_of hip.1
      obtain ⟨ha1, ha2⟩ := inB_of hip.2
      obtain ⟨R, rfl⟩ : ∃ R : Nat, r = (R : Int) := ⟨r.toNat, by omega⟩
      rw [Int.toNat_natCast] at ha2 hre
      have hw1 : IntKind.i64.wrap (R : Int) = (R : Int) := (IntWalk.i64_in _ (by omega)).trans (by omega)
      have HRE := Lib.hid hre
      by_cases hRn : R = n
      · have hre2 := HRE.out.trans (if_pos (by omega))
        subst hre2
        subst hRn
        have HN := Lib.hid fun wx => stepsNo_any c ra wa rc m wc R ((R : Int) + 1) wx (by omega)
        clear HY HLF hil hip hre HRE hr ha hr1 hr2
        go_wp2_with fail
        refine (HN.out _).mono ?_
        rintro e w4 ⟨rfl, hB⟩
        have X4 := Lib.hid (X3.out.next hB)
        clear hB
        go_wp2
        go_rounds 1
        go_ret2
        exact ⟨rfl, X4.out.under⟩
      · have hre2 := HRE.out.trans (if_neg (by omega))
        have hRl : R < n := by have := HL.out; omega
        obtain ⟨hst, _, htk, _, _⟩ := canB_parts (HFI.out R (by rw [← HL.out]; exact hRl))
        have hsz := row_size HCB.out (k := R) fun j hj => HFI.out j (by have := HL.out; omega)
        have HN := Lib.hid fun wx (hx : Strs wx (.slice ra n rc) L) => stepsYes_any c ra wa rc m wc n L R ((R : Int) + 1) wx hx HL.out hlen hRl rfl hst hsz
        have HTA := Lib.hid (show a < sumB tk (rowAt L R) (rowAt L R).size by
          have : sumB tk (rowAt L R) (rowAt L R).size = wd c L R := htk
          omega)
        have HSB := Lib.hid fun k (hk : k ≤ (rowAt L R).size) => takes_bd (s := rowAt L R) (k := k) fun j hj => allK_get hst (by omega)
        have HTB := Lib.hid fun k (hk : k < (rowAt L R).size) => tk_bd (allK_get hst hk)
        have HSU := Lib.hid fun k => (show sumB tk (rowAt L R) (k + 1) = sumB tk (rowAt L R) k + tk (chAt (rowAt L R) k) from rfl)
        have HTK := Lib.hid fun k (h1 : ∀ j, j < k → sumB tk (rowAt L R) (j + 1) ≤ a) h2 h3 => takerTo_at (s := rowAt L R) (a := a) h1 h2 (rowAt L R).size h3
        have HR2 := Lib.hid hre2
        clear HY HLF hil hip hre HRE hr hst htk hre2 HFI HCB
        generalize rowAt L R = s at *
        have hsz1 : (s.size : Int) ≤ 120 := by omega
        obtain ⟨sz, hsz0⟩ : ∃ sz, sz = s.size := ⟨_, rfl⟩
        rw [← hsz0] at hsz1 hsz HN HTA HSB HTB HTK HR2
        clear hsz0
        have ha0 := ha1
        clear ha2
        go_wp2_with fail
        refine (HN.out _ O3.out).mono ?_
        rintro e w4 ⟨x, rfl, hO, hB⟩
        have X4 := Lib.hid (X3.out.next hB)
        have hO2 := Lib.hid hO
        obtain ⟨sa, sc, rfl⟩ : ∃ sa sc, x = .slice sa sz sc := by
          rcases hO.2 with ⟨e, hh⟩ | ⟨g', cap', cur, e, hb', hg', hle, _⟩
          · exact ⟨none, 0, by rw [e]; simp; omega⟩
          · exact ⟨_, _, e⟩
        clear hB hO b0 b1 q0 q1 q2 X3 O3 HN
        go_wp2_with fail
        go_loopw [29] (fun i wr => ∃ k : Nat, k ≤ sz ∧ i = .int .i64 k ∧ Hid (Lb w wr (w.heap.size + 1) pb (R : Int) a (.int .i64 c) (.slice ra n rc) (.slice wa m wc)) ∧ Hid (OwnSt wr w3.heap.size (.slice sa sz sc) s sz) ∧ Hid (∀ j, j < k → sumB tk s (j + 1) ≤ a)) (fun i _ => sz - (intOf i).toNat)
        case atStart => exact ⟨0, Nat.zero_le _, rfl, X4, hO2, fun j hj => absurd hj (Nat.not_lt_zero j)⟩
        case round =>
          clear X4 hO2
          obtain ⟨k, hk, rfl, hX, hO, hA⟩ := hrel
          by_cases hlt : k < sz
          · obtain ⟨g, rfl, hg, c0, c1, c2, c3⟩ := step_cells hO.out hlt
            obtain ⟨b0, b1, _, _, _, _, hlb, _⟩ := hX.out
            have HSB2 := HSB.out k hk
            have HTB2 := HTB.out k hlt
            have hle : sumB tk s k ≤ a := by
              cases k with
              | zero => simpa [sumB] using ha0
              | succ j => exact hA.out j (by omega)
            have HSU2 := Lib.hid (HSU.out k)
            have HTK2 := Lib.hid fun h2 => HTK.out k hA.out h2 hlt
            have A5 : Below wr.heap.size wr (wr.alloc (.cells #[.int .i64 (sumB tk s k), .int .i64 (tk (chAt s k)), .int .i64 (sumB mk s k), .int .i64 (mk (chAt s k))] 62)) := (Below.refl _ _).alloc (Nat.le_refl _) _
            have X5 := Lib.hid (hX.out.next A5)
            have O5 := Lib.hid (kept_step hO.out A5)
            have b5 := kept A5 hlb b1
            have HC := Lib.hid fun wx => spanHas_any (sumB tk s k) (tk (chAt s k)) a wx (by omega) (by omega) (by omega)
            have HA2 := Lib.hid fun (h : sumB tk s (k + 1) ≤ a) => (show ∀ j, j < k + 1 → sumB tk s (j + 1) ≤ a from fun j hj => by
              by_cases e : j = k
              · subst e; exact h
              · exact hA.out j (by omega))
            have hw2 : IntKind.i64.wrap a = a := (IntWalk.i64_in _ (by omega)).trans (by omega)
            rw [HSU2.out] at HTK2 HA2
            clear hA A5 hO hX
            obtain ⟨t, ht⟩ : ∃ t, t = sumB tk s k := ⟨_, rfl⟩
            obtain ⟨xt, hxt⟩ : ∃ t, t = tk (chAt s k) := ⟨_, rfl⟩
            rw [← ht] at HTK2 HA2 HC X5 O5 b5 c0 hle
            rw [← hxt] at HTK2 HA2 HC X5 O5 b5 c1
            clear ht hxt HSU2
            generalize sumB mk s k = um at *
            generalize mk (chAt s k) = xm at *
            go_wp2_with fail
            refine (HC.out _).mono ?_
            rintro e w6 ⟨rfl, rfl⟩
            rw [show decide (t ≤ a) = true by simp [hle], Bool.true_and]
            have A6 : Below (wr.alloc (.cells #[.int .i64 t, .int .i64 xt, .int .i64 um, .int .i64 xm] 62)).heap.size (wr.alloc (.cells #[.int .i64 t, .int .i64 xt, .int .i64 um, .int .i64 xm] 62)) ((wr.alloc (.cells #[.int .i64 t, .int .i64 xt, .int .i64 um, .int .i64 xm] 62)).alloc (.cells #[.int .i64 t, .int .i64 xt] 60)) := (Below.refl _ _).alloc (Nat.le_refl _) _
            have X6 := Lib.hid (X5.out.next A6)
            have O6 := Lib.hid (kept_step O5.out A6)
            clear A6 X5 O5 b5 c0 c1 c2 c3
            by_cases hat : a < t + xt
            · rw [show decide (a < t + xt) = true by simp [hat]]
              have HK := Lib.hid (HTK2.out hat)
              rw [HK.out] at HR2
              have hre3 := HR2.out
              subst hre3
              clear HTK2 HA2 HK HR2
              go_wp2
              go_ret2
              exact ⟨rfl, X6.out.under⟩
            · rw [show decide (a < t + xt) = false by simp [hat]]
              have HA3 := Lib.hid (HA2.out (by omega))
              clear HTK2 HA2
              go_wp2
              go_roundw
              case rel => exact ⟨k + 1, by omega, by go_num, X6, O6, HA3⟩
              case measure => simp [intOf]; omega
          · exfalso
            have hkn : k = sz := by omega
            subst hkn
            have h1 := HTA.out
            cases k with
            | zero => simp [sumB] at h1; omega
            | succ j => have := hA.out j (by omega); omega
end Go.Proofs.YtcdjabhdbobghaaDoor
