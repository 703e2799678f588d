/-
  No statement is proved here: ServedBy and LeftIn of the document's own text; condition: at most 1048576 of each.
-/
import Derived.Test.YtklgklkfolbjcaaLfS
namespace Go.Proofs.Ytklgklkfolbjcaa
open Go.ChangeShapes Go.WideShapes Go.ChangeAt Go.RowKit


set_option maxRecDepth 100000 in
set_option maxHeartbeats 4000000 in
theorem specServed_any (va vo vp : Value) (T : List Lt) (os : List Od) (ps : List Int) (w : World) (ha : Lts w va T) (ho : Ods w vo os) (hp : Ints w vp ps) (hn0 : T.length ≤ 1048576) (hn1 : os.length ≤ 1048576) (hn : ps.length ≤ 1048576) :
    Calls Try.prog 21 #[va, vo, vp] w fun e w' => e = .returned (.tuple #[.bool (servedF T os ps).1, .int .i64 (servedF T os ps).2]) ∧ Below w.heap.size w w' := by
  have HV := Lib.hid (specLts0_any va T w ha hn0)
  have HH := Lib.hid (And.intro ha (And.intro ho hp))
  clear ha ho hp
  cases h1 : isLts T with
  | false =>
    rw [h1] at HV
    rw [servedF_no1 h1]
    clear h1
    · go_enter Try.func21, Try.ntmps21
      go_wp2_with fail
      refine HV.out.mono ?_
      rintro e w1 ⟨rfl, hB⟩
      have T1 := Lib.hid hB
      clear hB
      go_wp2_with fail
      go_returns
      exact ⟨rfl, T1.out⟩
  | true =>
    rw [h1] at HV
    cases h2 : isOds os with
    | false =>
      rw [servedF_no2 h2]
      clear h1
      go_enter Try.func21, Try.ntmps21
      go_wp2_with fail
      refine HV.out.mono ?_
      rintro e w1 ⟨rfl, hB⟩
      have T1 := Lib.hid hB
      have HO := Lib.hid (specOds0_any vo os w1 (HH.out.2.1.below hB) hn1)
      rw [h2] at HO
      clear hB h2
      go_wp2_with fail
      refine HO.out.mono ?_
      rintro e w2 ⟨rfl, hB⟩
      have T2 := Lib.hid (T1.out.trans (hB.mono T1.out.size))
      clear hB
      go_wp2_with fail
      go_returns
      exact ⟨rfl, T2.out⟩
    | true =>
      rw [servedF_yes h1 h2]
      have HR0 := Lib.hid (And.intro h1 h2)
      go_enter Try.func21, Try.ntmps21
      go_wp2_with fail
      refine HV.out.mono ?_
      rintro e w1 ⟨rfl, hB⟩
      have T1 := Lib.hid hB
      have HO := Lib.hid (specOds0_any vo os w1 (HH.out.2.1.below hB) hn1)
      rw [h2] at HO
      clear hB h1 h2
      go_wp2_with fail
      refine HO.out.mono ?_
      rintro e w2 ⟨rfl, hB⟩
      have T2 := Lib.hid (T1.out.trans (hB.mono T1.out.size))
      have HL := Lib.hid (l07Left_any va vo vp T os ps w2 (HH.out.1.below T2.out) (HH.out.2.1.below T2.out) (HH.out.2.2.below T2.out) HR0.out.1 HR0.out.2 hn)
      clear hB
      go_wp2_with fail
      refine HL.out.mono ?_
      rintro e w3 ⟨u, R, rfl, _, _, hB⟩
      have T3 := Lib.hid (T2.out.trans (hB.mono T2.out.size))
      clear hB
      go_wp2_with fail
      go_returns
      exact ⟨rfl, T3.out⟩

set_option maxRecDepth 100000 in
set_option maxHeartbeats 4000000 in
theorem specLeftIn_any (va vo vp : Value) (T : List Lt) (os : List Od) (ps : List Int) (w : World) (ha : Lts w va T) (ho : Ods w vo os) (hp : Ints w vp ps) (hn0 : T.length ≤ 1048576) (hn1 : os.length ≤ 1048576) (hn : ps.length ≤ 1048576) :
    Calls Try.prog 25 #[va, vo, vp] w fun e w' => ∃ r, e = .returned (.tuple #[r, .int .i64 (leftF T os ps).2]) ∧ Own w' w.heap.size r (leftF T os ps).1 ∧ Below w.heap.size w w' := by
  have HV := Lib.hid (specLts0_any va T w ha hn0)
  have HH := Lib.hid (And.intro ha (And.intro ho hp))
  clear ha ho hp
  cases h1 : isLts T with
  | false =>
    rw [h1] at HV
    rw [leftF_no1 h1]
    clear h1
    · go_enter Try.func25, Try.ntmps25
      go_wp2_with fail
      refine HV.out.mono ?_
      rintro e w1 ⟨rfl, hB⟩
      have T1 := Lib.hid hB
      clear hB
      go_wp2_with fail
      go_returns
      exact ⟨_, rfl, (World.ownsRow_made w1 #[] 0 (T1.out.size) (by decide) rfl : World.ownsRow _ _ _ _ _ _ _), T1.out.alloc T1.out.size _⟩
  | true =>
    rw [h1] at HV
    cases h2 : isOds os with
    | false =>
      rw [leftF_no2 h2]
      clear h1
      go_enter Try.func25, Try.ntmps25
      go_wp2_with fail
      refine HV.out.mono ?_
      rintro e w1 ⟨rfl, hB⟩
      have T1 := Lib.hid hB
      have HO := Lib.hid (specOds0_any vo os w1 (HH.out.2.1.below hB) hn1)
      rw [h2] at HO
      clear hB h2
      go_wp2_with fail
      refine HO.out.mono ?_
      rintro e w2 ⟨rfl, hB⟩
      have T2 := Lib.hid (T1.out.trans (hB.mono T1.out.size))
      clear hB
      go_wp2_with fail
      go_returns
      exact ⟨_, rfl, (World.ownsRow_made w2 #[] 0 (T2.out.size) (by decide) rfl : World.ownsRow _ _ _ _ _ _ _), T2.out.alloc T2.out.size _⟩
    | true =>
      cases hl : leftT T os ps with
      | none =>
        rw [leftF_none h1 h2 hl]
        have HR0 := Lib.hid (And.intro h1 h2)
        go_enter Try.func25, Try.ntmps25
        go_wp2_with fail
        refine HV.out.mono ?_
        rintro e w1 ⟨rfl, hB⟩
        have T1 := Lib.hid hB
        have HO := Lib.hid (specOds0_any vo os w1 (HH.out.2.1.below hB) hn1)
        rw [h2] at HO
        clear hB h1 h2
        go_wp2_with fail
        refine HO.out.mono ?_
        rintro e w2 ⟨rfl, hB⟩
        have T2 := Lib.hid (T1.out.trans (hB.mono T1.out.size))
        have HL := Lib.hid (l07Left_any va vo vp T os ps w2 (HH.out.1.below T2.out) (HH.out.2.1.below T2.out) (HH.out.2.2.below T2.out) HR0.out.1 HR0.out.2 hn)
        rw [hl] at HL
        clear hl
        clear hB
        go_wp2_with fail
        refine HL.out.mono ?_
        rintro e w3 ⟨u, R, rfl, _, _, hB⟩
        have T3 := Lib.hid (T2.out.trans (hB.mono T2.out.size))
        clear hB
        go_wp2_with fail
        go_returns
        exact ⟨_, rfl, (World.ownsRow_made w3 #[] 0 (T3.out.size) (by decide) rfl : World.ownsRow _ _ _ _ _ _ _), T3.out.alloc T3.out.size _⟩
      | some U =>
        rw [leftF_some h1 h2 hl]
        have HR0 := Lib.hid (And.intro h1 h2)
        go_enter Try.func25, Try.ntmps25
        go_wp2_with fail
        refine HV.out.mono ?_
        rintro e w1 ⟨rfl, hB⟩
        have T1 := Lib.hid hB
        have HO := Lib.hid (specOds0_any vo os w1 (HH.out.2.1.below hB) hn1)
        rw [h2] at HO
        clear hB h1 h2
        go_wp2_with fail
        refine HO.out.mono ?_
        rintro e w2 ⟨rfl, hB⟩
        have T2 := Lib.hid (T1.out.trans (hB.mono T1.out.size))
        have HL := Lib.hid (l07Left_any va vo vp T os ps w2 (HH.out.1.below T2.out) (HH.out.2.1.below T2.out) (HH.out.2.2.below T2.out) HR0.out.1 HR0.out.2 hn)
        rw [hl] at HL
        clear hl
        clear hB
        go_wp2_with fail
        refine HL.out.mono ?_
        rintro e w3 ⟨u, R, rfl, own, hR, hB⟩
        have T3 := Lib.hid (T2.out.trans (hB.mono T2.out.size))
        have e0 := hR U rfl
        subst e0
        have OW := Lib.hid own
        have Z2 := Lib.hid T2.out.size
        clear hB own hR
        go_wp2_with fail
        go_returns
        refine ⟨_, rfl, ?_, T3.out⟩
        have h := OW.out
        exact ⟨h.1, h.2.imp id fun ⟨g, cap, cur, a, b, c⟩ => ⟨g, cap, cur, a, Nat.le_trans Z2.out b, c⟩⟩
end Go.Proofs.Ytklgklkfolbjcaa
