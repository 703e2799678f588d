/-
  No statement is proved here: what is asked of a cloth and of programs, in the document's own text and in the program; condition: the program's errors lie where its text lays them; at most 1048576 programs.
-/
import Derived.Test.YtlmdojofjdfeeaaDoorClI
import Derived.Test.YtlmdojofjdfeeaaDoorPgS
namespace Go.Proofs.YtlmdojofjdfeeaaDoor
open Go.ChangeShapes Go.WideShapes Go.ChangeAt Go.RowKit

/-- All programs are valid; the code of what is asked. -/
def okQ (q : Pg) : Bool := okP q.1 q.2.1 q.2.2
def allP (ps : List Pg) : Bool := ps.all okQ
def askF (x y d f h : Int) (ps : List Pg) : Int := if okC x y d f h = true ∧ allP ps = true then (if ps.length ≤ 6 then 0 else 3) else 1
/-- What the program tells of it. -/
def refV (k : Int) : Value := if k = 0 then .nilIface else if k = 1 then .iface 92 (.agg #[]) else .iface 79 (.agg #[.int .i64 6])
theorem allP_all {ps : List Pg} (h : ∀ j, j < ps.length → okQ (pat ps j) = true) : allP ps = true := by
  unfold allP
  rw [List.all_eq_true]
  intro q hq
  obtain ⟨j, hj, rfl⟩ := List.mem_iff_getElem.1 hq
  have := h j hj
  unfold pat at this
  rwa [List.getD, List.getElem?_eq_getElem hj] at this
theorem allP_no {ps : List Pg} {k : Nat} (hk : k < ps.length) (h : okQ (pat ps k) = false) : allP ps = false := by
  unfold allP
  rw [List.all_eq_false]
  refine ⟨pat ps k, ?_, by rw [h]; simp⟩
  unfold pat
  rw [List.getD, List.getElem?_eq_getElem hk]
  exact List.getElem_mem hk
theorem allP_get {ps : List Pg} (h : allP ps = true) {k : Nat} (hk : k < ps.length) : okQ (pat ps k) = true := by
  unfold allP at h
  rw [List.all_eq_true] at h
  refine h _ ?_
  unfold pat
  rw [List.getD, List.getElem?_eq_getElem hk]
  exact List.getElem_mem hk
theorem askF_c {x y d f h : Int} {ps : List Pg} (e : okC x y d f h = false) : askF x y d f h ps = 1 := by unfold askF; rw [if_neg (by simp [e])]
theorem askF_p {x y d f h : Int} {ps : List Pg} (e : allP ps = false) : askF x y d f h ps = 1 := by unfold askF; rw [if_neg (by simp [e])]
theorem askF_many {x y d f h : Int} {ps : List Pg} (e : okC x y d f h = true) (k : allP ps = true) (n : ¬ ps.length ≤ 6) : askF x y d f h ps = 3 := by unfold askF; rw [if_pos ⟨e, k⟩, if_neg n]
theorem askF_yes {x y d f h : Int} {ps : List Pg} (e : okC x y d f h = true) (k : allP ps = true) (n : ps.length ≤ 6) : askF x y d f h ps = 0 := by unfold askF; rw [if_pos ⟨e, k⟩, if_pos n]
theorem askF_zero {x y d f h : Int} {ps : List Pg} (e : askF x y d f h ps = 0) : okC x y d f h = true ∧ allP ps = true ∧ ps.length ≤ 6 := by
  unfold askF at e
  split at e
  · rename_i k
    split at e
    · rename_i n; exact ⟨k.1, k.2, n⟩
    · omega
  · omega
theorem askF_or (x y d f h : Int) (ps : List Pg) : askF x y d f h ps = 0 ∨ askF x y d f h ps = 1 ∨ askF x y d f h ps = 3 := by
  unfold askF
  split <;> (try split) <;> simp
theorem refV_0 : refV 0 = .nilIface := rfl
theorem refV_1 : refV 1 = .iface 92 (.agg #[]) := rfl
theorem refV_3 : refV 3 = .iface 79 (.agg #[.int .i64 6]) := rfl
theorem okQ_eq (ps : List Pg) (k : Nat) : okQ (pat ps k) = okP (pat ps k).1 (pat ps k).2.1 (pat ps k).2.2 := rfl

/-- A program in a slice of programs. -/
theorem Progs.box {w : World} {ps : List Pg} {b off cap : Nat} (h : Progs w (.slice (some ⟨b, off, none⟩) ps.length cap) ps) (h0 : 0 < ps.length) (k : Nat) (hk : k < ps.length) : PBox w b (off + k * 3) (pat ps k).1 (pat ps k).2.1 (pat ps k).2.2 := by
  obtain ⟨b', off', cap', hv, _, hc⟩ := h.pos h0
  cases hv
  exact hc k hk

set_option maxRecDepth 100000 in
set_option maxHeartbeats 4000000 in
theorem l06Asked_any (b : Nat) (x y d f h : Int) (v : Value) (ps : List Pg) (w : World) (hx : IsS x) (hy : IsS y) (hd : Is8 d) (hf : Is8 f) (hh : Is8 h) (hb : CBox w b x y d f h) (hP : Progs w v ps) (hn : ps.length ≤ 1048576) :
    Calls Tryd.prog 45 #[.pointer (some ⟨b, 0, none⟩), v] w fun e w' => e = .returned (.int .i64 (askF x y d f h ps)) ∧ w = w' := by
  have H1 := Lib.hid (l06Ok_any b x y d f h w hd hf hh hx hy hb)
  have HC := Lib.hid fun e => askF_c (x := x) (y := y) (d := d) (f := f) (h := h) (ps := ps) e
  have HN := Lib.hid fun e => askF_p (x := x) (y := y) (d := d) (f := f) (h := h) (ps := ps) e
  have HM := Lib.hid fun e k n => askF_many (x := x) (y := y) (d := d) (f := f) (h := h) (ps := ps) e k n
  have HY := Lib.hid fun e k n => askF_yes (x := x) (y := y) (d := d) (f := f) (h := h) (ps := ps) e k n
  generalize askF x y d f h ps = A at *
  generalize okC x y d f h = q at *
  clear hx hy hd hf hh hb
  cases q with
  | false =>
    obtain rfl := HC.out rfl
    clear hP
    go_enter Tryd.func45, Tryd.ntmps45
    go_wp2_with fail
    refine H1.out.mono ?_
    rintro e w' ⟨rfl, rfl⟩
    go_wp2
    go_ret
    exact ⟨rfl, rfl⟩
  | true =>
    obtain ⟨a0, c0, rfl⟩ := hP.len
    have HP := Lib.hid hP
    have HA := Lib.hid fun h => allP_all (ps := ps) h
    have HO := Lib.hid fun k hk h => allP_no (ps := ps) (k := k) hk h
    have H3 := Lib.hid fun k => hP.is16 k
    obtain ⟨n, hnn⟩ : ∃ n, ps.length = n := ⟨_, rfl⟩
    have HB := Lib.hid (show ∀ k, k < n → ∃ b off, a0 = some ⟨b, off, none⟩ ∧ PBox w b (off + k * 3) (pat ps k).1 (pat ps k).2.1 (pat ps k).2.2 from fun k hk => by
      obtain ⟨b', off', cap', hv, _, hc⟩ := hP.pos (by omega)
      cases hv
      exact ⟨_, _, rfl, hc k (by omega)⟩)
    rw [hnn] at HA HO HM HY hn ⊢
    clear hP HP hnn
    go_enter Tryd.func45, Tryd.ntmps45
    go_wp2_with fail
    refine H1.out.mono ?_
    rintro e w' ⟨rfl, rfl⟩
    go_wp2
    go_loop [5] (fun i => ∃ k : Nat, k ≤ n ∧ i = .int .i64 k ∧ Hid (∀ j, j < k → okQ (pat ps j) = true)) (fun i => n - (intOf i).toNat)
    case atStart => exact ⟨0, Nat.zero_le _, rfl, fun j hj => by omega⟩
    case round =>
      obtain ⟨k, hk, rfl, hR⟩ := hrel
      by_cases hlt : k < n
      · obtain ⟨b', off', rfl, hbx⟩ := HB.out k hlt
        have H4 := Lib.hid (l06Program_any b' (off' + k * 3) (pat ps k).1 (pat ps k).2.1 (pat ps k).2.2 w (H3.out k).1 (H3.out k).2.1 (H3.out k).2.2 hbx)
        have HN2 := Lib.hid (show okP (pat ps k).1 (pat ps k).2.1 (pat ps k).2.2 = true → ∀ j, j < k + 1 → okQ (pat ps j) = true from fun h j hj => by
          by_cases hjk : j = k
          · subst hjk; exact h
          · exact hR.out j (by omega))
        have HX := Lib.hid (show okP (pat ps k).1 (pat ps k).2.1 (pat ps k).2.2 = false → A = 1 from fun h => HN.out (HO.out k hlt h))
        generalize okP (pat ps k).1 (pat ps k).2.1 (pat ps k).2.2 = r at *
        clear hbx
        cases r with
        | true =>
          have HR2 := Lib.hid (HN2.out rfl)
          clear HN2 HX hR
          go_wp2_with fail
          refine H4.out.mono ?_
          rintro e w' ⟨rfl, rfl⟩
          go_wp2
          go_round
          case rel => exact ⟨k + 1, by omega, by go_num, HR2⟩
          case measure => simp [intOf]; omega
        | false =>
          have HE := HX.out rfl
          clear HN2 HX hR
          go_wp2_with fail
          refine H4.out.mono ?_
          rintro e w' ⟨rfl, rfl⟩
          go_wp2
          go_ret
          exact ⟨ret_int (by omega), rfl⟩
      · have hkn : k = n := by omega
        subst hkn
        have HT := Lib.hid (HA.out hR.out)
        by_cases h6 : k ≤ 6
        · have HE := HY.out (by first | rfl | trivial) HT.out h6
          go_wp2
          go_ret
          exact ⟨ret_int (by omega), rfl⟩
        · have HE := HM.out (by first | rfl | trivial) HT.out h6
          have h6' : 6 < k := by omega
          go_wp2
          go_ret
          exact ⟨ret_int (by omega), rfl⟩

set_option maxRecDepth 100000 in
set_option maxHeartbeats 8000000 in
theorem checkWashes_any (p : Nat → Addr) (x y d f h : Int) (v : Value) (ps : List Pg) (w : World) (hs : Sent3 w p) (hx : IsS x) (hy : IsS y) (hd : Is8 d) (hf : Is8 f) (hh : Is8 h) (hP : Progs w v ps) (hn : ps.length ≤ 1048576) :
    Calls Tryd.prog 40 #[.agg #[.int .i16 x, .int .i16 y, .int .i8 d, .int .i8 f, .int .i8 h], v] w fun e w' => e = .returned (refV (askF x y d f h ps)) ∧ Below w.heap.size w w' := by
  have HS := Lib.hid hs
  have H1 := Lib.hid fun wx hs => validCloth_any p x y d f h wx hs hx hy hd hf hh
  have HC := Lib.hid fun e => (congrArg refV (askF_c (x := x) (y := y) (d := d) (f := f) (h := h) (ps := ps) e)).trans refV_1
  have HN := Lib.hid fun e => (congrArg refV (askF_p (x := x) (y := y) (d := d) (f := f) (h := h) (ps := ps) e)).trans refV_1
  have HM := Lib.hid fun e k n => (congrArg refV (askF_many (x := x) (y := y) (d := d) (f := f) (h := h) (ps := ps) e k n)).trans refV_3
  have HY := Lib.hid fun e k n => (congrArg refV (askF_yes (x := x) (y := y) (d := d) (f := f) (h := h) (ps := ps) e k n)).trans refV_0
  generalize refV (askF x y d f h ps) = A at *
  generalize okC x y d f h = q at *
  clear hx hy hd hf hh hs
  have B0 : Hid (Below w.heap.size w (w.alloc (.cells #[.int .i16 x, .int .i16 y, .int .i8 d, .int .i8 f, .int .i8 h] 27))) := Lib.hid (by go_grown)
  cases q with
  | false =>
    obtain rfl := HC.out rfl
    clear hP
    go_enter Tryd.func40, Tryd.ntmps40
    go_wp2_with fail
    refine (H1.out _ (HS.out.below B0.out)).mono ?_
    rintro e w1 ⟨rfl, hB⟩
    have B1 := Lib.hid (B0.out.trans (hB.mono B0.out.size))
    clear hB
    go_wp2
    go_ret
    exact ⟨rfl, B1.out⟩
  | true =>
    obtain ⟨a0, c0, rfl⟩ := hP.len
    have HA := Lib.hid fun h => allP_all (ps := ps) h
    have HO := Lib.hid fun k hk h => allP_no (ps := ps) (k := k) hk h
    have H3 := Lib.hid fun k => hP.is16 k
    obtain ⟨n, hnn⟩ : ∃ n, ps.length = n := ⟨_, rfl⟩
    have HB := Lib.hid (show ∀ k, k < n → ∃ b off, a0 = some ⟨b, off, none⟩ ∧ PBox w b (off + k * 3) (pat ps k).1 (pat ps k).2.1 (pat ps k).2.2 from fun k hk => by
      obtain ⟨b', off', cap', hv, _, hc⟩ := hP.pos (by omega)
      cases hv
      exact ⟨_, _, rfl, hc k (by omega)⟩)
    rw [hnn] at HA HO HM HY hn ⊢
    clear hP hnn
    go_enter Tryd.func40, Tryd.ntmps40
    go_wp2_with fail
    refine (H1.out _ (HS.out.below B0.out)).mono ?_
    rintro e w1 ⟨rfl, hB⟩
    have B1 := Lib.hid (B0.out.trans (hB.mono B0.out.size))
    clear hB B0
    go_wp2
    go_loopw [14] (fun i wr => ∃ k : Nat, k ≤ n ∧ i = .int .i64 k ∧ Hid (∀ j, j < k → okQ (pat ps j) = true) ∧ Hid (Below w.heap.size w wr)) (fun i _ => n - (intOf i).toNat)
    case atStart => exact ⟨0, Nat.zero_le _, rfl, fun j hj => by omega, B1⟩
    case round =>
      obtain ⟨k, hk, rfl, hR, hBr⟩ := hrel
      by_cases hlt : k < n
      · obtain ⟨b', off', rfl, hbx⟩ := HB.out k hlt
        obtain ⟨g0, g1, g2⟩ := hbx.below hBr.out
        have H4 := Lib.hid fun wx hs => validProgram_any p (pat ps k).1 (pat ps k).2.1 (pat ps k).2.2 wx hs (H3.out k).1 (H3.out k).2.1 (H3.out k).2.2
        have HN2 := Lib.hid (show okP (pat ps k).1 (pat ps k).2.1 (pat ps k).2.2 = true → ∀ j, j < k + 1 → okQ (pat ps j) = true from fun h j hj => by
          by_cases hjk : j = k
          · subst hjk; exact h
          · exact hR.out j (by omega))
        have HX := Lib.hid (show okP (pat ps k).1 (pat ps k).2.1 (pat ps k).2.2 = false → A = .iface 92 (.agg #[]) from fun h => HN.out (HO.out k hlt h))
        generalize okP (pat ps k).1 (pat ps k).2.1 (pat ps k).2.2 = r at *
        generalize (pat ps k).1 = t at *
        generalize (pat ps k).2.1 = u at *
        generalize (pat ps k).2.2 = c at *
        have B2 := Lib.hid (hBr.out.alloc hBr.out.size (.cells #[.int .i8 t, .int .i8 u, .int .i8 c] 33))
        clear hbx
        cases r with
        | true =>
          have HR2 := Lib.hid (HN2.out rfl)
          clear HN2 HX hR
          go_wp2_with fail
          refine (H4.out _ (HS.out.below B2.out)).mono ?_
          rintro e w2 ⟨rfl, hB⟩
          have B3 := Lib.hid (B2.out.trans (hB.mono B2.out.size))
          clear hB B2
          go_wp2
          go_roundw
          case rel => exact ⟨k + 1, by omega, by go_num, HR2, B3⟩
          case measure => simp [intOf]; omega
        | false =>
          obtain rfl := HX.out rfl
          clear HN2 hR
          go_wp2_with fail
          refine (H4.out _ (HS.out.below B2.out)).mono ?_
          rintro e w2 ⟨rfl, hB⟩
          have B3 := Lib.hid (B2.out.trans (hB.mono B2.out.size))
          clear hB B2
          go_wp2
          go_ret
          exact ⟨rfl, B3.out⟩
      · have hkn : k = n := by omega
        subst hkn
        have HT := Lib.hid (HA.out hR.out)
        by_cases h6 : k ≤ 6
        · obtain rfl := HY.out (by first | rfl | trivial) HT.out h6
          go_wp2
          go_ret
          exact ⟨rfl, hBr.out⟩
        · obtain rfl := HM.out (by first | rfl | trivial) HT.out h6
          have h6' : 6 < k := by omega
          go_wp2
          go_ret
          exact ⟨rfl, hBr.out⟩
end Go.Proofs.YtlmdojofjdfeeaaDoor
