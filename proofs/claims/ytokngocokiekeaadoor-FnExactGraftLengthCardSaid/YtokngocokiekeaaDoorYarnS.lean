/-
  No statement is proved here: how much yarn a fabric needs, in the document's own text; condition: rows of at most 1048576 bytes.
-/
import Derived.Test.YtokngocokiekeaaDoorKnitO
namespace Go.Proofs.YtokngocokiekeaaDoor
open Go.ChangeShapes Go.WideShapes Go.ChangeAt Go.RowKit

theorem mul_bd {a b A B : Int} (h0 : 0 ≤ a) (h1 : a ≤ A) (k0 : 0 ≤ b) (k1 : b ≤ B) : 0 ≤ a * b ∧ a * b ≤ A * B :=
  ⟨Int.mul_nonneg h0 k0, Int.mul_le_mul h1 k1 k0 (by omega)⟩
/-- What the first rows need. -/
def sumN (L : List ByteArray) : Nat → Int
  | 0 => 0
  | k + 1 => sumN L k + needsF (rowAt L k)
theorem sumN_bd {L : List ByteArray} : ∀ {k : Nat}, (∀ j, j < k → (rowAt L j).size ≤ 120) → 0 ≤ sumN L k ∧ sumN L k ≤ 720 * k
  | 0, _ => by simp [sumN]
  | k + 1, h => by
    have ih := sumN_bd (k := k) fun j hj => h j (by omega)
    have h1 := needs_bd (rowAt L k) (rowAt L k).size
    have h2 := h k (by omega)
    rw [sumN]
    unfold needsF
    omega
/-- The code of a fabric, and of what is asked besides. -/
def askF (c : Int) (L : List ByteArray) (f : Bool) : Int := if okF c L = true then (if f = true then 0 else 2) else 1
/-- What YarnFor answers. -/
def yarnF (c : Int) (L : List ByteArray) (g : Int) : Int × Int := if askF c L (inB g 1 100) = 0 then ((4 * c + sumN L L.length) * g, 0) else (0, askF c L (inB g 1 100))
theorem askF_zero {c : Int} {L : List ByteArray} {f : Bool} (h : askF c L f = 0) : okF c L = true ∧ f = true := by
  unfold askF at h
  split at h
  · rename_i h1
    split at h
    · rename_i h2
      exact ⟨h1, h2⟩
    · simp at h
  · simp at h

set_option maxRecDepth 100000 in
set_option maxHeartbeats 2000000 in
theorem specAsked_any (b : Nat) (c : Int) (v : Value) (L : List ByteArray) (f : Bool) (w : World) (c0 : w.cell? ⟨b, 0, none⟩ = some (.int .i16 c)) (c1 : w.cell? ⟨b, 1, none⟩ = some v) (hc : -32768 ≤ c ∧ c ≤ 32767)
    (h : Strs w v L) (hn : L.length ≤ 1048576) (hs : ∀ j, j < L.length → (rowAt L j).size ≤ 1048576) :
    Calls Tryd.prog 77 #[.pointer (some ⟨b, 0, none⟩), .bool f] w fun e w' => e = .returned (.int .i64 (askF c L f)) ∧ ∃ n, w' = w.drewN n := by
  have H := Lib.hid (specOk_any b c v L w c0 c1 hc h hn hs)
  have HR := Lib.hid (show askF c L f = if okF c L = true then (if f = true then 0 else 2) else 1 from rfl)
  generalize askF c L f = r at *
  clear c0 c1 h hn hs hc
  cases hk : okF c L with
  | false =>
    rw [hk] at H HR
    go_enter Tryd.func77, Tryd.ntmps77
    go_wp2_with fail
    refine H.out.mono ?_
    rintro e w2 ⟨rfl, n, rfl⟩
    go_wp2
    go_ret
    exact ⟨ret_int HR.out.symm, n, rfl⟩
  | true =>
    rw [hk] at H HR
    cases f with
    | false =>
      go_enter Tryd.func77, Tryd.ntmps77
      go_wp2_with fail
      refine H.out.mono ?_
      rintro e w2 ⟨rfl, n, rfl⟩
      go_wp2
      go_ret
      exact ⟨ret_int HR.out.symm, n, rfl⟩
    | true =>
      go_enter Tryd.func77, Tryd.ntmps77
      go_wp2_with fail
      refine H.out.mono ?_
      rintro e w2 ⟨rfl, n, rfl⟩
      go_wp2
      go_ret
      exact ⟨ret_int HR.out.symm, n, rfl⟩
theorem specGauge_any (n : Int) (w : World) :
    Calls Tryd.prog 78 #[.int .i64 n] w fun e w' => e = .returned (.bool (inB n 1 100)) ∧ w = w' := by
  have H := Lib.hid (in_any n 1 100 w)
  go_enter Tryd.func78, Tryd.ntmps78
  go_wp2_with fail
  refine H.out.mono ?_
  rintro e w' ⟨rfl, rfl⟩
  go_wp2
  go_ret
  exact ⟨rfl, rfl⟩

set_option maxRecDepth 100000 in
set_option maxHeartbeats 4000000 in
theorem specNeeds_any (s : ByteArray) (w : World) (hs : s.size ≤ 1048576) :
    Calls Tryd.prog 79 #[.string s] w fun e w' => e = .returned (.int .i64 (needsF s)) ∧ w = w' := by
  have HI := Lib.hid fun k hk wx => chAt_idx s k hk wx
  have HM := Lib.hid fun k => needs_bd s k
  have HT := Lib.hid fun k => show sumB nd s (k + 1) = sumB nd s k + nd (chAt s k) from rfl
  have HE := Lib.hid (show needsF s = sumB nd s s.size from rfl)
  generalize needsF s = R at *
  obtain ⟨n, hn⟩ : ∃ n, n = s.size := ⟨_, rfl⟩
  have hsz : s.size = n := hn.symm
  rw [hsz] at hs HI HE
  clear hn
  go_enter Tryd.func79, Tryd.ntmps79
  go_wp2
  go_loop [3, 4] (fun t i => ∃ k : Nat, k ≤ n ∧ i = .int .i64 k ∧ t = .int .i64 (sumB nd s k)) (fun _ i => n - (intOf i).toNat)
  case atStart => exact ⟨0, Nat.zero_le _, rfl, rfl⟩
  case round =>
    obtain ⟨k, hk, rfl, rfl⟩ := hrel
    have hb2 := HM.out k
    by_cases hlt : k < n
    · have q := HI.out k hlt
      have ht := HT.out k
      generalize chAt s k = b at *
      generalize sumB nd s k = m at *
      rcases st_cases b with (rfl | rfl | rfl | rfl | rfl) | ⟨h1, h2, h3, h4, h5⟩
      · have HT2 := Lib.hid (ht.trans (show m + nd 107 = m + 3 from rfl))
        clear ht
        go_wp2
        go_round
        case rel => exact ⟨k + 1, by omega, by go_num, by rw [HT2.out]⟩
        case measure => simp [intOf]; omega
      · have HT2 := Lib.hid (ht.trans (show m + nd 105 = m + 6 from rfl))
        clear ht
        go_wp2
        go_round
        case rel => exact ⟨k + 1, by omega, by go_num, by rw [HT2.out]⟩
        case measure => simp [intOf]; omega
      · have HT2 := Lib.hid (ht.trans (show m + nd 98 = m + 5 from rfl))
        clear ht
        go_wp2
        go_round
        case rel => exact ⟨k + 1, by omega, by go_num, by rw [HT2.out]⟩
        case measure => simp [intOf]; omega
      · have HT2 := Lib.hid (ht.trans (show m + nd 100 = m + 4 from rfl))
        clear ht
        go_wp2
        go_round
        case rel => exact ⟨k + 1, by omega, by go_num, by rw [HT2.out]⟩
        case measure => simp [intOf]; omega
      · have HT2 := Lib.hid (ht.trans (show m + nd 111 = m + 4 from rfl))
        clear ht
        go_wp2
        go_round
        case rel => exact ⟨k + 1, by omega, by go_num, by rw [HT2.out]⟩
        case measure => simp [intOf]; omega
      · have e : nd b = 0 := by simp [nd, *]
        have HT2 : Hid (sumB nd s (k + 1) = m) := by rw [ht, e]; exact Int.add_zero m
        have g1 : ((b : Int) == 107) = false := by rw [beq_eq_false_iff_ne]; omega
        have g2 : ((b : Int) == 105) = false := by rw [beq_eq_false_iff_ne]; omega
        have g3 : ((b : Int) == 98) = false := by rw [beq_eq_false_iff_ne]; omega
        have g4 : ((b : Int) == 100) = false := by rw [beq_eq_false_iff_ne]; omega
        have g5 : ((b : Int) == 111) = false := by rw [beq_eq_false_iff_ne]; omega
        clear ht e h1 h2 h3 h4 h5
        go_wp2
        go_round
        case rel => exact ⟨k + 1, by omega, by go_num, by rw [HT2.out]⟩
        case measure => simp [intOf]; omega
    · have hkn : k = n := by omega
      subst hkn
      generalize sumB nd s k = m at *
      go_wp2
      go_ret
      exact ⟨ret_int HE.out.symm, rfl⟩

set_option maxRecDepth 100000 in
set_option maxHeartbeats 4000000 in
theorem specYarn_any (c : Int) (v : Value) (L : List ByteArray) (g : Int) (w : World) (hc : -32768 ≤ c ∧ c ≤ 32767)
    (h : Strs w v L) (hn : L.length ≤ 1048576) (hs : ∀ j, j < L.length → (rowAt L j).size ≤ 1048576) :
    Calls Tryd.prog 41 #[.agg #[.int .i16 c, v], .int .i64 g] w fun e w' => e = .returned (.tuple #[.int .i64 (yarnF c L g).1, .int .i64 (yarnF c L g).2]) ∧ Below w.heap.size w w' := by
  have X0 := Lib.hid (hb2_made w (.int .i16 c) v 28)
  have HG := Lib.hid fun wx => specGauge_any g wx
  have HA := Lib.hid fun f => specAsked_any w.heap.size c v L f _ X0.out.1 X0.out.2.1 hc (h.below X0.out.2.2.1) hn hs
  obtain ⟨fi, hfi⟩ : ∃ fi, fi = inB g 1 100 := ⟨_, rfl⟩
  have HY := Lib.hid (show yarnF c L g = if askF c L fi = 0 then ((4 * c + sumN L L.length) * g, 0) else (0, askF c L fi) by rw [hfi]; rfl)
  generalize yarnF c L g = R at *
  rw [← hfi] at HG
  have HA1 := Lib.hid (HA.out fi)
  by_cases h0 : askF c L fi = 0
  · obtain ⟨hok, hf⟩ := askF_zero h0
    obtain ⟨hcb, hfine⟩ := okF_parts hok
    rw [h0] at HA1
    have HR := Lib.hid (HY.out.trans (if_pos h0))
    have hgb := inB_of (hfi.symm.trans hf)
    have hlen := fine_len hfine
    have HS2 := Lib.hid fun k (hk : k < L.length) => row_size hcb (k := k) fun j hj => hfine j (by omega)
    have HSB := Lib.hid fun k (hk : k ≤ L.length) => sumN_bd (L := L) (k := k) fun j hj => HS2.out j (by omega)
    have HST := Lib.hid fun k => show sumN L (k + 1) = sumN L k + needsF (rowAt L k) from rfl
    have HNB := Lib.hid fun k => show 0 ≤ needsF (rowAt L k) ∧ needsF (rowAt L k) ≤ 6 * (rowAt L k).size from needs_bd (rowAt L k) (rowAt L k).size
    have HSrc : Hid (∃ a1 cp, v = .slice a1 L.length cp ∧ ∀ k, k < L.length → ∃ b off, a1 = some ⟨b, off, none⟩ ∧ b < w.heap.size ∧ w.cell? ⟨b, off + k, none⟩ = some (.string (rowAt L k))) := by
      rcases h with ⟨a1, cp, rfl, rfl⟩ | ⟨b, off, cap, rfl, h0, hb, hc⟩
      · exact ⟨a1, cp, rfl, fun k hk => absurd hk (Nat.not_lt_zero k)⟩
      · exact ⟨_, cap, rfl, fun k hk => ⟨b, off, rfl, hb, hc k hk⟩⟩
    obtain ⟨a1, cp, rfl, hsrc⟩ := HSrc.out
    have HSR := Lib.hid hsrc
    obtain ⟨n, hln⟩ : ∃ n, n = L.length := ⟨_, rfl⟩
    rw [← hln] at HSR HR HS2 HSB hlen
    have HL := Lib.hid hln
    rw [← hln] at HA1 X0
    have eL : (Value.slice a1 L.length cp) = .slice a1 n cp := by rw [HL.out]
    rw [eL]
    clear h hn hs hc h0 hok hf hfine hfi HSrc hsrc HA HY hln eL
    obtain ⟨hc1, hc2⟩ := hcb
    obtain ⟨hg1, hg2⟩ := hgb
    go_enter Tryd.func41, Tryd.ntmps41
    go_wp2_with fail
    refine (HG.out _).mono ?_
    rintro e w1 ⟨rfl, rfl⟩
    go_wp2_with fail
    refine HA1.out.mono ?_
    rintro e w2 ⟨rfl, m, rfl⟩
    have X1 : Hid (Hb2 w ((w.alloc (.cells #[.int .i16 c, .slice a1 n cp] 28)).drewN m) w.heap.size _ _) := Lib.hid (hb2_id (hb2_next X0.out (bdN _ m)))
    clear X0 HA1 HG
    generalize (w.alloc (.cells #[.int .i16 c, .slice a1 n cp] 28)).drewN m = w2 at *
    obtain ⟨p0, p1, hB, _⟩ := X1.out
    go_wp2_with fail
    go_loop [7, 8] (fun t i => ∃ k : Nat, k ≤ n ∧ i = .int .i64 k ∧ t = .int .i64 (4 * c + sumN L k)) (fun _ i => n - (intOf i).toNat)
    case atStart => exact ⟨0, Nat.zero_le _, rfl, by simp [sumN]⟩
    case round =>
      obtain ⟨k, hk, rfl, rfl⟩ := hrel
      have hb2 := HSB.out k hk
      by_cases hlt : k < n
      · obtain ⟨b, off, rfl, hbw, hcell⟩ := HSR.out k hlt
        have c1 : w2.cell? ⟨b, off + k, none⟩ = some (.string (rowAt L k)) := kept X1.out.2.2.1 hbw hcell
        have hsz := HS2.out k hlt
        have HN := Lib.hid fun wx => specNeeds_any (rowAt L k) wx (by omega)
        have hnb := HNB.out k
        have HT2 := Lib.hid (HST.out k)
        generalize rowAt L k = s at *
        generalize needsF s = y at *
        generalize sumN L k = m at *
        have hsb : (s.size : Int) ≤ 120 := by omega
        clear hcell hB
        go_wp2_with fail
        refine (HN.out _).mono ?_
        rintro e w3 ⟨rfl, rfl⟩
        go_wp2
        go_round
        case rel => exact ⟨k + 1, by omega, by go_num, by rw [HT2.out]; go_num⟩
        case measure => simp [intOf]; omega
      · have hkn : k = n := by omega
        subst hkn
        generalize sumN L k = m at *
        have hmb := mul_bd (a := 4 * c + m) (b := g) (A := 30000) (B := 100) (by omega) (by omega) (by omega) (by omega)
        obtain ⟨q, hq⟩ : ∃ q, q = (4 * c + m) * g := ⟨_, rfl⟩
        rw [← hq] at hmb
        have HR2 := Lib.hid HR.out
        rw [← hq] at HR2
        have u1 : ∀ [Inhabited Nat], IntKind.i64.wrap ((4 * c + m) * g) = q := by intro _; rw [← hq]; exact (IntWalk.i64_in _ (by omega)).trans (by omega)
        have u2 : ∀ [Inhabited Nat], wrap64 ((4 * c + m) * g) = q := by intro _; rw [← hq]; exact (IntWalk.wrap64_in _ (by omega)).trans (by omega)
        have B1 := Lib.hid hB
        clear hB hq HR
        go_wp2
        go_ret2
        rw [HR2.out]
        exact ⟨rfl, B1.out⟩
  · have HR := Lib.hid (HY.out.trans (if_neg h0))
    have hne : (askF c L fi != 0) = true := by rw [bne_iff_ne]; exact h0
    generalize askF c L fi = r at *
    obtain ⟨a1, cp, rfl⟩ := h.len
    clear h hn hs hc h0 HA HY hfi
    go_enter Tryd.func41, Tryd.ntmps41
    go_wp2_with fail
    refine (HG.out _).mono ?_
    rintro e w1 ⟨rfl, rfl⟩
    go_wp2_with fail
    refine HA1.out.mono ?_
    rintro e w2 ⟨rfl, m, rfl⟩
    go_wp2
    go_ret2
    rw [HR.out]
    exact ⟨rfl, X0.out.2.2.1.trans ((bdN _ _).mono X0.out.2.2.1.size)⟩
end Go.Proofs.YtokngocokiekeaaDoor
