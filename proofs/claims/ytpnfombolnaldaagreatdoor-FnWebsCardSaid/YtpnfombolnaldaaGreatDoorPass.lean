/-
  No statement is proved here: what a pass makes of a web, in the document's own text; condition: a valid web, from 0 to 100 percent.
-/
import Derived.Test.YtpnfombolnaldaaGreatDoorRoll
import Derived.Test.YtpnfombolnaldaaGreatDoorDrawn
namespace Go.Proofs.YtpnfombolnaldaaGreatDoor
open Go.ChangeShapes Go.WideShapes Go.ChangeAt Go.RowKit

theorem upTo_of {zs : List Int} {m : Int} (h : ∀ k, k < zs.length → 0 ≤ zs.getD k 0 ∧ zs.getD k 0 ≤ m) : upTo zs m = true := by
  rw [upTo, List.all_eq_true]
  intro z hz
  obtain ⟨k, hk, e⟩ := List.mem_iff_getElem.1 hz
  have := h k hk
  rw [List.getD, List.getElem?_eq_getElem hk, e] at this
  exact inB_mk this
theorem okW_mk {zs : List Int} (h1 : 2 ≤ zs.length) (h2 : zs.length ≤ 12) (h3 : zs.length % 2 = 0) (h : ∀ k, k < zs.length → 0 ≤ zs.getD k 0 ∧ zs.getD k 0 ≤ 10000) : okW zs = true := by
  simp only [okW, Bool.and_eq_true, decide_eq_true_eq]
  exact ⟨inB_mk ⟨by omega, by omega⟩, by omega, upTo_of h⟩
theorem sum_put : ∀ (zs : List Int) (i : Nat) (a : Int), i < zs.length → (zs.set i a).sum = zs.sum - zs.getD i 0 + a
  | [], i, a, h => by simp at h
  | z :: zs, 0, a, _ => by simp; omega
  | z :: zs, i + 1, a, h => by
    have ih := sum_put zs i a (by simpa using h)
    simp only [List.set_cons_succ, List.sum_cons, List.getD_cons_succ]
    omega

/-- What falls out of a stripe. -/
def lossOf (p z : Int) : Int := z * p / 100
theorem loss_bd {p z : Int} (hz : 0 ≤ z) (hz' : z ≤ 10000) (hp : 0 ≤ p) (hp' : p ≤ 100) : 0 ≤ z * p ∧ z * p ≤ 1000000 ∧ 0 ≤ lossOf p z ∧ lossOf p z ≤ z := by
  have h1 : 0 ≤ z * p := Int.mul_nonneg hz hp
  have h2 : z * p ≤ z * 100 := Int.mul_le_mul_of_nonneg_left hp' hz
  refine ⟨h1, by omega, Int.ediv_nonneg h1 (by omega), ?_⟩
  unfold lossOf
  omega

/-- The first k stripes without what falls out of them. -/
def shedTo (p : Int) (zs : List Int) (k : Nat) : List Int := (List.range zs.length).map fun j => if j < k then zs.getD j 0 - lossOf p (zs.getD j 0) else zs.getD j 0
theorem shedTo_length (p : Int) (zs : List Int) (k : Nat) : (shedTo p zs k).length = zs.length := by simp [shedTo]
theorem shedTo_get (p : Int) (zs : List Int) (k j : Nat) (hj : j < zs.length) : (shedTo p zs k).getD j 0 = if j < k then zs.getD j 0 - lossOf p (zs.getD j 0) else zs.getD j 0 := by
  simp [shedTo, List.getD, hj]
theorem shedTo_zero (p : Int) (zs : List Int) : shedTo p zs 0 = zs := by
  refine ext_getD (shedTo_length p zs 0) fun j hj => ?_
  rw [shedTo_length] at hj
  rw [shedTo_get p zs 0 j hj, if_neg (by omega)]
set_option linter.unusedVariables false in
theorem shedTo_step (p : Int) (zs : List Int) (k : Nat) (hk : k < zs.length) : (shedTo p zs k).set k (zs.getD k 0 - lossOf p (zs.getD k 0)) = shedTo p zs (k + 1) := by
  refine ext_getD (by simp [shedTo_length]) fun j hj => ?_
  simp only [List.length_set, shedTo_length] at hj
  rw [getD_set _ _ _ _ (by simpa [shedTo_length] using hj), shedTo_get p zs k j hj, shedTo_get p zs (k + 1) j hj]
  by_cases h1 : k = j
  · subst h1
    rw [if_pos rfl, if_pos (by omega)]
  · rw [if_neg h1]
    by_cases h2 : j < k
    · rw [if_pos h2, if_pos (by omega)]
    · rw [if_neg h2, if_neg (by omega)]
theorem shedTo_sum (p : Int) (zs : List Int) (k : Nat) (hk : k < zs.length) : (shedTo p zs (k + 1)).sum = (shedTo p zs k).sum - lossOf p (zs.getD k 0) := by
  rw [← shedTo_step p zs k hk, sum_put _ _ _ (by rw [shedTo_length]; exact hk), shedTo_get p zs k k hk, if_neg (by omega)]
  omega
theorem shedTo_ok (p : Int) (zs : List Int) (k : Nat) (hok : okW zs = true) (hp : 0 ≤ p) (hp' : p ≤ 100) : okW (shedTo p zs k) = true := by
  have hl := okW_len hok
  refine okW_mk (by rw [shedTo_length]; omega) (by rw [shedTo_length]; omega) (by rw [shedTo_length]; omega) fun j hj => ?_
  rw [shedTo_length] at hj
  rw [shedTo_get p zs k j hj]
  have hz := okW_get hok j hj
  have := loss_bd hz.1 hz.2 hp hp'
  split <;> omega
theorem loss_quo {p z : Int} (hz : 0 ≤ z) (hz' : z ≤ 10000) (hp : 0 ≤ p) (hp' : p ≤ 100) : IntKind.i64.wrap (z * p) = z * p ∧ IntKind.i64.wrap ((z * p).tdiv 100) = lossOf p z := by
  have h := loss_bd hz hz' hp hp'
  refine ⟨IntWalk.i64_in _ (by omega), ?_⟩
  rw [Int.tdiv_eq_ediv_of_nonneg h.1]
  exact IntWalk.i64_in _ (by unfold lossOf at h; omega)

set_option maxRecDepth 100000 in
set_option maxHeartbeats 2000000 in
theorem shed_any (v : Value) (zs : List Int) (p : Int) (w : World) (h : Ints w v zs) (hok : okW zs = true) (hp : 0 ≤ p) (hp' : p ≤ 100) :
    Calls Tryz.prog 72 #[v, .int .i64 p] w fun e w' => ∃ r, e = .returned (.tuple #[r, .int .i64 (zs.sum - (shedTo p zs zs.length).sum)]) ∧ Own w' w.heap.size r (shedTo p zs zs.length) ∧ Below w.heap.size w w' := by
  have hl := okW_len hok
  have hn : zs.length ≤ 1048576 := by omega
  have H1 := Lib.hid (clone_any v zs w h hn (by omega))
  have HZ := Lib.hid fun wx (hx : Ints wx v zs) => sumOf_any v zs wx hx hn (upTo_mono (okW_up hok) (by omega))
  have HF := Lib.hid fun r wx (hx : Ints wx r (shedTo p zs zs.length)) => sumOf_any r (shedTo p zs zs.length) wx hx (by rw [shedTo_length]; exact hn) (upTo_mono (okW_up (shedTo_ok p zs zs.length hok hp hp')) (by omega))
  have hs1 := sum_bd_all (upTo_mono (okW_up hok) (show (10000 : Int) ≤ 1000000 by omega))
  have hs2 := sum_bd_all (upTo_mono (okW_up (shedTo_ok p zs zs.length hok hp hp')) (show (10000 : Int) ≤ 1000000 by omega))
  rw [shedTo_length] at hs2
  have HV := Lib.hid h
  have hbw0 := h.blk (by omega)
  obtain ⟨b1, o1, c1, rfl, hc1⟩ := h.pos (by omega)
  have hbw : b1 < w.heap.size := hbw0 b1 o1 none _ _ rfl
  have HX := Lib.hid fun k hk => okW_get hok k hk
  have hsx : IntKind.i64.wrap (zs.sum - (shedTo p zs zs.length).sum) = zs.sum - (shedTo p zs zs.length).sum := IntWalk.i64_in _ (by omega)
  clear h hbw0 hok hs1 hs2
  unfold Own
  rw [shedTo_length]
  have U1 := Lib.hid (shedTo_step p zs)
  have U2 := Lib.hid (shedTo_get p zs)
  have U3 := Lib.hid (shedTo_length p zs)
  have U4 := Lib.hid (shedTo_zero p zs)
  obtain ⟨n, hln⟩ : ∃ n, n = zs.length := ⟨_, rfl⟩
  have HL := Lib.hid hln
  obtain ⟨FS, hFS⟩ : ∃ FS, FS = (shedTo p zs zs.length).sum := ⟨_, rfl⟩
  rw [← hFS] at HF hsx ⊢
  obtain ⟨Z, hZ⟩ : ∃ Z, Z = zs.sum := ⟨_, rfl⟩
  rw [← hZ] at HZ hsx ⊢
  clear hFS hZ
  rw [← hln] at H1 U1 U2 U3 HX HZ HF HV hc1 hn hl ⊢
  have HC := Lib.hid hc1
  clear hc1 hln
  obtain ⟨B, hBe⟩ : ∃ B, B = w.heap.size := ⟨_, rfl⟩
  have HB := Lib.hid hBe
  rw [← hBe] at hbw H1 ⊢
  clear hBe
  go_enter Tryz.func72, Tryz.ntmps72
  go_wp2_with fail
  refine H1.out.mono ?_
  rintro e w1 ⟨r, rfl, own, hB1⟩
  have own2 := own.row
  rcases own.block with ⟨hxe, _⟩ | ⟨g, cap, rfl, hbg, hg, hob, hcc, hff⟩
  · exfalso
    have := HL.out
    rw [hxe] at this
    simp at this
    omega
  rw [← U4.out, U3.out] at own2
  rw [← HL.out] at *
  have S0 := Lib.hid own2
  have S1 := Lib.hid hB1
  clear own own2 hB1 hg hob hcc hff
  clear HL
  go_wp2_with fail
  go_loopw [13] (fun i wr => ∃ k : Nat, k ≤ n ∧ i = .int .i64 k ∧ Hid (wr.ownsRow B 2 1 (.slice (some ⟨g, 0, none⟩) n cap) n ((shedTo p zs k).map (Value.int .i64))) ∧ Hid (Below B w wr)) (fun i _ => n - (intOf i).toNat)
  case atStart => exact ⟨0, Nat.zero_le _, rfl, S0, S1⟩
  case round =>
    clear S0 S1
    obtain ⟨k, hk, rfl, hO, hE⟩ := hrel
    by_cases hlt : k < n
    · have c1 : wr.cell? ⟨b1, o1 + k, none⟩ = some (.int .i64 (zs.getD k 0)) := (hE.out.cell (p := ⟨b1, o1 + k, none⟩) hbw).trans (HC.out k hlt)
      have c2 : wr.cell? ⟨g, k, none⟩ = some (.int .i64 ((shedTo p zs k).getD k 0)) := (hO.out.cellAt k (by omega)).trans (cellOf (by rw [U3.out]; exact hlt))
      have f2 : wr.frozen? ⟨g, k, none⟩ = false := hO.out.frozenAt k
      rw [U2.out k k hlt, if_neg (by omega)] at c2
      have u1 := U1.out k hlt
      have hx := HX.out k hlt
      obtain ⟨x, hxe⟩ : ∃ x, x = zs.getD k 0 := ⟨_, rfl⟩
      rw [← hxe] at c1 c2 u1 hx
      have hq := loss_quo hx.1 hx.2 hp hp'
      have hd := loss_bd hx.1 hx.2 hp hp'
      obtain ⟨d, hde⟩ : ∃ d, d = lossOf p x := ⟨_, rfl⟩
      rw [← hde] at u1 hq hd
      have HU := Lib.hid u1
      obtain ⟨q1, q2⟩ := hq
      have q3 : IntKind.i64.wrap (x - d) = x - d := IntWalk.i64_in _ (by omega)
      clear u1 hxe hde hd
      go_wp2_with fail
      have h1 := (hO.out.stored k (Value.int .i64 (x - d))).1
      rw [← List.map_set, HU.out] at h1
      go_roundw
      case rel => exact ⟨k + 1, by omega, by go_num, Lib.hid h1, Lib.hid (hE.out.setCell (p := ⟨g, k, none⟩) hbg _)⟩
      case measure => simp [intOf]; omega
    · have hkn : k = n := by omega
      subst hkn
      have D1 := Lib.hid (HZ.out wr (HV.out.below (HB.out ▸ hE.out)))
      have D2 := Lib.hid (HF.out (.slice (some ⟨g, 0, none⟩) k cap) wr (Own.ints (base := B) (by unfold Own; rw [U3.out]; exact hO.out)))
      clear HZ HF HV
      go_wp2_with fail
      refine D1.out.mono ?_
      rintro e wa ⟨rfl, rfl⟩
      go_wp2_with fail
      refine D2.out.mono ?_
      rintro e wa ⟨rfl, rfl⟩
      go_wp2_with fail
      go_returns
      exact ⟨_, rfl, hO.out, hE.out⟩


theorem dbl_up {zs : List Int} {f : Bool} (hok : okW zs = true) : upTo (dblTo zs f (zs.length / 2)) 20000 = true := by
  have hl := okW_len hok
  refine upTo_of fun k hk => ?_
  rw [dblTo_length] at hk
  rw [dblTo_get _ _ _ _ hk]
  have h1 := okW_get hok k (by omega)
  have h2 := okW_get hok (mate f zs.length k) (by unfold mate; split <;> omega)
  omega
/-- A web laid double and drawn out again. -/
def laid (f : Bool) (zs : List Int) : List Int := outD (dblTo zs f (zs.length / 2))
theorem laid_length {zs : List Int} {f : Bool} (hok : okW zs = true) : (laid f zs).length = zs.length := by
  have hl := okW_len hok
  rw [laid, outD_length, dblTo_length]
  omega
theorem out_up {ys : List Int} (h : upTo ys 20000 = true) : upTo (outD ys) 10000 = true := by
  rw [upTo, List.all_eq_true] at h ⊢
  intro z hz
  rw [outD, List.mem_flatMap] at hz
  obtain ⟨y, hy, e⟩ := hz
  have hb := inB_of (h y hy)
  simp only [List.mem_cons, List.not_mem_nil, or_false] at e
  refine inB_mk ?_
  rcases e with rfl | rfl <;> omega
theorem laid_ok {zs : List Int} {f : Bool} (hok : okW zs = true) : okW (laid f zs) = true := by
  have hl := okW_len hok
  have e := laid_length (f := f) hok
  exact okW_mk (by omega) (by omega) (by omega) fun k hk => upTo_get (out_up (dbl_up hok)) k hk
/-- What a pass leaves, and what falls out behind it. -/
def cardW (p : Int) (f : Bool) (zs : List Int) : List Int := shedTo p (laid f zs) zs.length
def fallW (p : Int) (f : Bool) (zs : List Int) : Int := (laid f zs).sum - (cardW p f zs).sum
theorem cardW_ok {p : Int} {f : Bool} {zs : List Int} (hok : okW zs = true) (hp : 0 ≤ p) (hp' : p ≤ 100) : okW (cardW p f zs) = true := shedTo_ok p _ _ (laid_ok hok) hp hp'
theorem cardW_length {p : Int} {f : Bool} {zs : List Int} (hok : okW zs = true) : (cardW p f zs).length = zs.length := by rw [cardW, shedTo_length, laid_length hok]
theorem fallW_bd {p : Int} {f : Bool} {zs : List Int} (hok : okW zs = true) (hp : 0 ≤ p) (hp' : p ≤ 100) : -12000000 ≤ fallW p f zs ∧ fallW p f zs ≤ 12000000 := by
  have hl := okW_len hok
  have e1 := laid_length (f := f) hok
  have e2 := cardW_length (p := p) (f := f) hok
  have h1 := sum_bd_all (upTo_mono (okW_up (laid_ok (f := f) hok)) (show (10000 : Int) ≤ 1000000 by omega))
  have h2 := sum_bd_all (upTo_mono (okW_up (cardW_ok (f := f) hok hp hp')) (show (10000 : Int) ≤ 1000000 by omega))
  rw [e1] at h1
  rw [e2] at h2
  unfold fallW
  omega

/-- What a pass answers: the web, what falls out, and whether there is such a pass. -/
def passR (p c : Int) (zs : List Int) : List Int × Int × Bool :=
  if c = 114 then (rollL zs (rollP 1 zs.length), 0, true)
  else if c = 102 then (cardW p true zs, fallW p true zs, true)
  else if c = 99 then (cardW p false zs, fallW p false zs, true)
  else ([], 0, false)
theorem passR_r (p : Int) (zs : List Int) : passR p 114 zs = (rollL zs (rollP 1 zs.length), 0, true) := if_pos rfl
theorem passR_f (p : Int) (zs : List Int) : passR p 102 zs = (cardW p true zs, fallW p true zs, true) := rfl
theorem passR_c (p : Int) (zs : List Int) : passR p 99 zs = (cardW p false zs, fallW p false zs, true) := rfl
theorem passR_no {p c : Int} {zs : List Int} (h1 : c ≠ 114) (h2 : c ≠ 102) (h3 : c ≠ 99) : passR p c zs = ([], 0, false) := by
  unfold passR
  rw [if_neg h1, if_neg h2, if_neg h3]
theorem roll_ok {zs : List Int} (p : Nat) (hok : okW zs = true) (hp : p < zs.length) : okW (rollL zs p) = true := by
  have hl := okW_len hok
  have e := rollL_length zs p
  refine okW_mk (by omega) (by omega) (by omega) fun k hk => ?_
  rw [e] at hk
  rw [rollL_get zs p k hp hk]
  exact okW_get hok _ (Nat.mod_lt _ (by omega))
theorem passR_ok {p c : Int} {zs : List Int} (hok : okW zs = true) (hp : 0 ≤ p) (hp' : p ≤ 100) (h : (passR p c zs).2.2 = true) :
    okW (passR p c zs).1 = true ∧ (passR p c zs).1.length = zs.length ∧ -12000000 ≤ (passR p c zs).2.1 ∧ (passR p c zs).2.1 ≤ 12000000 := by
  have hl := okW_len hok
  by_cases h1 : c = 114
  · subst h1
    rw [passR_r]
    exact ⟨roll_ok _ hok (rollP_lt 1 _ (by omega)), rollL_length _ _, by simp, by simp⟩
  · by_cases h2 : c = 102
    · subst h2
      rw [passR_f]
      exact ⟨cardW_ok hok hp hp', cardW_length hok, fallW_bd hok hp hp'⟩
    · by_cases h3 : c = 99
      · subst h3
        rw [passR_c]
        exact ⟨cardW_ok hok hp hp', cardW_length hok, fallW_bd hok hp hp'⟩
      · rw [passR_no h1 h2 h3] at h
        cases h

set_option maxRecDepth 100000 in
set_option maxHeartbeats 4000000 in
theorem l02Pass_f (v : Value) (zs : List Int) (p : Int) (w : World) (h : Ints w v zs) (hok : okW zs = true) (hp : 0 ≤ p) (hp' : p ≤ 100) :
    Calls Tryz.prog 42 #[v, .int .u8 102, .int .i64 p] w fun e w' => ∃ r, e = .returned (.tuple #[r, .int .i64 (fallW p true zs), .bool true]) ∧ Own w' w.heap.size r (cardW p true zs) ∧ Below w.heap.size w w' := by
  have hl := okW_len hok
  have HD := Lib.hid (l02Double_any v zs true w h hok)
  have HO := Lib.hid fun r wx (hx : Ints wx r (dblTo zs true (zs.length / 2))) => l02Out_any r _ wx hx (by rw [dblTo_length]; omega) (dbl_up hok)
  have e1 := laid_length (f := true) hok
  have hyk := laid_ok (f := true) hok
  obtain ⟨ys, hys⟩ : ∃ ys, ys = laid true zs := ⟨_, rfl⟩
  have hcw : cardW p true zs = shedTo p ys ys.length := by rw [hys, cardW, e1]
  have hfw : fallW p true zs = ys.sum - (shedTo p ys ys.length).sum := by rw [fallW, hcw, hys]
  rw [hcw, hfw]
  rw [← hys] at e1 hyk
  have HY := Lib.hid hys
  clear hys hcw hfw
  have U1 := Lib.hid (shedTo_step p ys)
  have U2 := Lib.hid (shedTo_get p ys)
  have U3 := Lib.hid (shedTo_length p ys)
  have U4 := Lib.hid (shedTo_zero p ys)
  have U5 := Lib.hid (shedTo_sum p ys)
  have HX := Lib.hid fun k hk => okW_get hyk k hk
  have HS := Lib.hid fun k => sum_bd_all (upTo_mono (okW_up (shedTo_ok p ys k hyk hp hp')) (show (10000 : Int) ≤ 1000000 by omega))
  have hz1 := sum_bd_all (upTo_mono (okW_up hyk) (show (10000 : Int) ≤ 1000000 by omega))
  unfold Own
  rw [shedTo_length]
  have hyl := okW_len hyk
  obtain ⟨n, hln⟩ : ∃ n, n = ys.length := ⟨_, rfl⟩
  have HL := Lib.hid hln
  obtain ⟨Z, hZ⟩ : ∃ Z, Z = ys.sum := ⟨_, rfl⟩
  have HZ := Lib.hid hZ
  rw [← hZ] at hz1 ⊢
  rw [← hln] at U1 U2 U3 U5 HX hyl hz1 ⊢
  clear hZ hln e1 hyk h hok hl
  obtain ⟨B, hBe⟩ : ∃ B, B = w.heap.size := ⟨_, rfl⟩
  have HB := Lib.hid hBe
  rw [← hBe] at HD ⊢
  clear hBe
  go_enter Tryz.func42, Tryz.ntmps42
  go_wp2_with fail
  refine HD.out.mono ?_
  rintro e w1 ⟨r1, rfl, own, hB⟩
  have O1 := Lib.hid own
  have T1 := Lib.hid hB
  clear own hB
  go_wp2_with fail
  refine (HO.out r1 w1 O1.out.ints).mono ?_
  rintro e w2 ⟨r2, rfl, own, hB⟩
  have own : Own w2 B r2 ys := by
    rw [HY.out]
    exact own.mono (by rw [HB.out]; exact T1.out.size)
  have hB1 := T1.out.trans (hB.mono (by rw [HB.out]; exact T1.out.size))
  clear O1 T1 HO HD hB HY
  have own2 := own.row
  rcases own.block with ⟨hxe, _⟩ | ⟨g, cap, rfl, hbg, hg, hob, hcc, hff⟩
  · exfalso
    have := HL.out
    rw [hxe] at this
    simp at this
    omega
  rw [← U4.out, U3.out] at own2
  rw [← HL.out] at *
  have S0 := Lib.hid own2
  have S1 := Lib.hid hB1
  clear own own2 hB1 hg hob hcc hff
  clear HL
  go_wp2_with fail
  go_loopw [10, 11] (fun f i wr => ∃ k : Nat, k ≤ n ∧ i = .int .i64 k ∧ f = .int .i64 (Z - (shedTo p ys k).sum) ∧ Hid (wr.ownsRow B 2 1 (.slice (some ⟨g, 0, none⟩) n cap) n ((shedTo p ys k).map (Value.int .i64))) ∧ Hid (Below B w wr)) (fun _ i _ => n - (intOf i).toNat)
  case atStart => exact ⟨0, Nat.zero_le _, rfl, by rw [U4.out, HZ.out, Int.sub_self], S0, S1⟩
  case round =>
    clear S0 S1
    obtain ⟨k, hk, rfl, rfl, hO, hE⟩ := hrel
    by_cases hlt : k < n
    · have c2 : wr.cell? ⟨g, k, none⟩ = some (.int .i64 ((shedTo p ys k).getD k 0)) := (hO.out.cellAt k (by omega)).trans (cellOf (by rw [U3.out]; exact hlt))
      have f2 : wr.frozen? ⟨g, k, none⟩ = false := hO.out.frozenAt k
      rw [U2.out k k hlt, if_neg (by omega)] at c2
      have u1 := U1.out k hlt
      have hx := HX.out k hlt
      have u5 := U5.out k hlt
      have hs := HS.out k
      rw [U3.out] at hs
      obtain ⟨s1, hs1⟩ : ∃ s1, s1 = (shedTo p ys k).sum := ⟨_, rfl⟩
      rw [← hs1] at hs u5 ⊢
      clear hs1
      obtain ⟨x, hxe⟩ : ∃ x, x = ys.getD k 0 := ⟨_, rfl⟩
      rw [← hxe] at c2 u1 u5 hx
      have hq := loss_quo hx.1 hx.2 hp hp'
      have hd := loss_bd hx.1 hx.2 hp hp'
      obtain ⟨d, hde⟩ : ∃ d, d = lossOf p x := ⟨_, rfl⟩
      rw [← hde] at u1 u5 hq hd
      have HU := Lib.hid u1
      have HU5 := Lib.hid u5
      obtain ⟨q1, q2⟩ := hq
      have q3 : IntKind.i64.wrap (x - d) = x - d := IntWalk.i64_in _ (by omega)
      have q4 : IntKind.i64.wrap (Z - s1 + d) = Z - s1 + d := IntWalk.i64_in _ (by omega)
      clear u1 u5 hxe hde hd hs
      go_wp2_with fail
      have h1 := (hO.out.stored k (Value.int .i64 (x - d))).1
      rw [← List.map_set, HU.out] at h1
      go_roundw
      case rel => exact ⟨k + 1, by omega, by go_num, by rw [HU5.out]; congr 1; omega, Lib.hid h1, Lib.hid (hE.out.setCell (p := ⟨g, k, none⟩) hbg _)⟩
      case measure => simp [intOf]; omega
    · have hkn : k = n := by omega
      subst hkn
      go_wp2_with fail
      go_returns
      exact ⟨_, rfl, hO.out, hE.out⟩

set_option maxRecDepth 100000 in
set_option maxHeartbeats 4000000 in
theorem l02Pass_c (v : Value) (zs : List Int) (p : Int) (w : World) (h : Ints w v zs) (hok : okW zs = true) (hp : 0 ≤ p) (hp' : p ≤ 100) :
    Calls Tryz.prog 42 #[v, .int .u8 99, .int .i64 p] w fun e w' => ∃ r, e = .returned (.tuple #[r, .int .i64 (fallW p false zs), .bool true]) ∧ Own w' w.heap.size r (cardW p false zs) ∧ Below w.heap.size w w' := by
  have hl := okW_len hok
  have HD := Lib.hid (l02Double_any v zs false w h hok)
  have HO := Lib.hid fun r wx (hx : Ints wx r (dblTo zs false (zs.length / 2))) => l02Out_any r _ wx hx (by rw [dblTo_length]; omega) (dbl_up hok)
  have e1 := laid_length (f := false) hok
  have hyk := laid_ok (f := false) hok
  obtain ⟨ys, hys⟩ : ∃ ys, ys = laid false zs := ⟨_, rfl⟩
  have hcw : cardW p false zs = shedTo p ys ys.length := by rw [hys, cardW, e1]
  have hfw : fallW p false zs = ys.sum - (shedTo p ys ys.length).sum := by rw [fallW, hcw, hys]
  rw [hcw, hfw]
  rw [← hys] at e1 hyk
  have HY := Lib.hid hys
  clear hys hcw hfw
  have U1 := Lib.hid (shedTo_step p ys)
  have U2 := Lib.hid (shedTo_get p ys)
  have U3 := Lib.hid (shedTo_length p ys)
  have U4 := Lib.hid (shedTo_zero p ys)
  have U5 := Lib.hid (shedTo_sum p ys)
  have HX := Lib.hid fun k hk => okW_get hyk k hk
  have HS := Lib.hid fun k => sum_bd_all (upTo_mono (okW_up (shedTo_ok p ys k hyk hp hp')) (show (10000 : Int) ≤ 1000000 by omega))
  have hz1 := sum_bd_all (upTo_mono (okW_up hyk) (show (10000 : Int) ≤ 1000000 by omega))
  unfold Own
  rw [shedTo_length]
  have hyl := okW_len hyk
  obtain ⟨n, hln⟩ : ∃ n, n = ys.length := ⟨_, rfl⟩
  have HL := Lib.hid hln
  obtain ⟨Z, hZ⟩ : ∃ Z, Z = ys.sum := ⟨_, rfl⟩
  have HZ := Lib.hid hZ
  rw [← hZ] at hz1 ⊢
  rw [← hln] at U1 U2 U3 U5 HX hyl hz1 ⊢
  clear hZ hln e1 hyk h hok hl
  obtain ⟨B, hBe⟩ : ∃ B, B = w.heap.size := ⟨_, rfl⟩
  have HB := Lib.hid hBe
  rw [← hBe] at HD ⊢
  clear hBe
  go_enter Tryz.func42, Tryz.ntmps42
  go_wp2_with fail
  refine HD.out.mono ?_
  rintro e w1 ⟨r1, rfl, own, hB⟩
  have O1 := Lib.hid own
  have T1 := Lib.hid hB
  clear own hB
  go_wp2_with fail
  refine (HO.out r1 w1 O1.out.ints).mono ?_
  rintro e w2 ⟨r2, rfl, own, hB⟩
  have own : Own w2 B r2 ys := by
    rw [HY.out]
    exact own.mono (by rw [HB.out]; exact T1.out.size)
  have hB1 := T1.out.trans (hB.mono (by rw [HB.out]; exact T1.out.size))
  clear O1 T1 HO HD hB HY
  have own2 := own.row
  rcases own.block with ⟨hxe, _⟩ | ⟨g, cap, rfl, hbg, hg, hob, hcc, hff⟩
  · exfalso
    have := HL.out
    rw [hxe] at this
    simp at this
    omega
  rw [← U4.out, U3.out] at own2
  rw [← HL.out] at *
  have S0 := Lib.hid own2
  have S1 := Lib.hid hB1
  clear own own2 hB1 hg hob hcc hff
  clear HL
  go_wp2_with fail
  go_loopw [10, 11] (fun f i wr => ∃ k : Nat, k ≤ n ∧ i = .int .i64 k ∧ f = .int .i64 (Z - (shedTo p ys k).sum) ∧ Hid (wr.ownsRow B 2 1 (.slice (some ⟨g, 0, none⟩) n cap) n ((shedTo p ys k).map (Value.int .i64))) ∧ Hid (Below B w wr)) (fun _ i _ => n - (intOf i).toNat)
  case atStart => exact ⟨0, Nat.zero_le _, rfl, by rw [U4.out, HZ.out, Int.sub_self], S0, S1⟩
  case round =>
    clear S0 S1
    obtain ⟨k, hk, rfl, rfl, hO, hE⟩ := hrel
    by_cases hlt : k < n
    · have c2 : wr.cell? ⟨g, k, none⟩ = some (.int .i64 ((shedTo p ys k).getD k 0)) := (hO.out.cellAt k (by omega)).trans (cellOf (by rw [U3.out]; exact hlt))
      have f2 : wr.frozen? ⟨g, k, none⟩ = false := hO.out.frozenAt k
      rw [U2.out k k hlt, if_neg (by omega)] at c2
      have u1 := U1.out k hlt
      have hx := HX.out k hlt
      have u5 := U5.out k hlt
      have hs := HS.out k
      rw [U3.out] at hs
      obtain ⟨s1, hs1⟩ : ∃ s1, s1 = (shedTo p ys k).sum := ⟨_, rfl⟩
      rw [← hs1] at hs u5 ⊢
      clear hs1
      obtain ⟨x, hxe⟩ : ∃ x, x = ys.getD k 0 := ⟨_, rfl⟩
      rw [← hxe] at c2 u1 u5 hx
      have hq := loss_quo hx.1 hx.2 hp hp'
      have hd := loss_bd hx.1 hx.2 hp hp'
      obtain ⟨d, hde⟩ : ∃ d, d = lossOf p x := ⟨_, rfl⟩
      rw [← hde] at u1 u5 hq hd
      have HU := Lib.hid u1
      have HU5 := Lib.hid u5
      obtain ⟨q1, q2⟩ := hq
      have q3 : IntKind.i64.wrap (x - d) = x - d := IntWalk.i64_in _ (by omega)
      have q4 : IntKind.i64.wrap (Z - s1 + d) = Z - s1 + d := IntWalk.i64_in _ (by omega)
      clear u1 u5 hxe hde hd hs
      go_wp2_with fail
      have h1 := (hO.out.stored k (Value.int .i64 (x - d))).1
      rw [← List.map_set, HU.out] at h1
      go_roundw
      case rel => exact ⟨k + 1, by omega, by go_num, by rw [HU5.out]; congr 1; omega, Lib.hid h1, Lib.hid (hE.out.setCell (p := ⟨g, k, none⟩) hbg _)⟩
      case measure => simp [intOf]; omega
    · have hkn : k = n := by omega
      subst hkn
      go_wp2_with fail
      go_returns
      exact ⟨_, rfl, hO.out, hE.out⟩

set_option maxRecDepth 100000 in
set_option maxHeartbeats 4000000 in
theorem l02Pass_any (v : Value) (zs : List Int) (p c : Int) (w : World) (h : Ints w v zs) (hok : okW zs = true) (hp : 0 ≤ p) (hp' : p ≤ 100) :
    Calls Tryz.prog 42 #[v, .int .u8 c, .int .i64 p] w fun e w' => ∃ r, e = .returned (.tuple #[r, .int .i64 (passR p c zs).2.1, .bool (passR p c zs).2.2]) ∧ Own w' w.heap.size r (passR p c zs).1 ∧ Below w.heap.size w w' := by
  by_cases h1 : c = 114
  · subst h1
    rw [passR_r]
    have HR := Lib.hid (l02Roll_any v zs 1 w h hok (by show (-9223372036854775808 : Int) ≤ 1 ∧ (1 : Int) ≤ 9223372036854775807; omega))
    clear h hok hp hp'
    go_enter Tryz.func42, Tryz.ntmps42
    go_wp2_with fail
    refine HR.out.mono ?_
    rintro e w' ⟨r, rfl, own, hB⟩
    go_wp2_with fail
    go_returns
    exact ⟨_, rfl, own, hB⟩
  · by_cases h2 : c = 102
    · subst h2
      rw [passR_f]
      exact l02Pass_f v zs p w h hok hp hp'
    · by_cases h3 : c = 99
      · subst h3
        rw [passR_c]
        exact l02Pass_c v zs p w h hok hp hp'
      · rw [passR_no h1 h2 h3]
        have y1 : (c == 114) = false := by rw [beq_eq_false_iff_ne]; exact h1
        have y2 : (c == 102) = false := by rw [beq_eq_false_iff_ne]; exact h2
        have y3 : (c == 99) = false := by rw [beq_eq_false_iff_ne]; exact h3
        clear h hok hp hp' 
        go_enter Tryz.func42, Tryz.ntmps42
        go_wp2_with fail
        go_returns
        exact ⟨_, rfl, World.ownsRow_made w #[] 0 (Nat.le_refl _) (by decide) rfl, (Below.refl _ _).alloc (Nat.le_refl _) _⟩
end Go.Proofs.YtpnfombolnaldaaGreatDoor
