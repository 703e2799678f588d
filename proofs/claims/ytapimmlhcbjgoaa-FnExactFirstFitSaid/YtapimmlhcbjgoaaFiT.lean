/-
  No statement is proved here: FirstFit and BestFit, as the program and as the document's own text tell them; condition: at most 1048576 lots and orders.
-/
import Derived.Test.YtapimmlhcbjgoaaFiS
import Derived.Test.YtapimmlhcbjgoaaFiI
namespace Go.Proofs.Ytapimmlhcbjgoaa
open Go.ChangeShapes Go.WideShapes Go.ChangeAt Go.RowKit

set_option maxRecDepth 100000 in
set_option maxHeartbeats 4000000 in
theorem specFirstFit_any (va vo : Value) (T : List Lt) (os : List Od) (w : World) (ha : Lts w va T) (ho : Ods w vo os) (hn0 : T.length ≤ 1048576) (hn1 : os.length ≤ 1048576) :
    Calls Try.prog 7 #[va, vo] w fun e w' => ∃ u, e = .returned (.tuple #[u, .int .i64 (fitF false T os).2]) ∧ Own w' w.heap.size u (fitF false T os).1 ∧ Below w.heap.size w w' := by
  have HV := Lib.hid (specLts0_any va T w ha hn0)
  have HH := Lib.hid (And.intro ha ho)
  clear ha ho
  cases h1 : isLts T with
  | false =>
    rw [h1] at HV
    rw [fitF_no1 h1]
    clear h1
    go_enter Try.func7, Try.ntmps7
    go_wp2_with fail
    refine HV.out.mono ?_
    rintro e w1 ⟨rfl, hB⟩
    have T1 := Lib.hid hB
    have Z1 := Lib.hid hB.size
    clear hB
    go_wp2_with fail
    go_returns
    exact ⟨_, rfl, World.ownsRow_made w1 #[] 0 Z1.out (by decide) rfl, T1.out.alloc Z1.out _⟩
  | true =>
    rw [h1] at HV
    cases h2 : isOds os with
    | false =>
      rw [fitF_no2 h2]
      clear h1
      go_enter Try.func7, Try.ntmps7
      go_wp2_with fail
      refine HV.out.mono ?_
      rintro e w1 ⟨rfl, hB⟩
      have T1 := Lib.hid hB
      have HO := Lib.hid (specOds0_any vo os w1 (HH.out.2.below hB) hn1)
      rw [h2] at HO
      clear hB h2
      go_wp2_with fail
      refine HO.out.mono ?_
      rintro e w2 ⟨rfl, hB⟩
      have T2 := Lib.hid (T1.out.trans (hB.mono T1.out.size))
      have Z2 := Lib.hid T2.out.size
      clear hB
      go_wp2_with fail
      go_returns
      exact ⟨_, rfl, World.ownsRow_made w2 #[] 0 Z2.out (by decide) rfl, T2.out.alloc Z2.out _⟩
    | true =>
      rw [fitF_yes h1 h2]
      have HR0 := Lib.hid (And.intro h1 h2)
      go_enter Try.func7, Try.ntmps7
      go_wp2_with fail
      refine HV.out.mono ?_
      rintro e w1 ⟨rfl, hB⟩
      have T1 := Lib.hid hB
      have HO := Lib.hid (specOds0_any vo os w1 (HH.out.2.below hB) hn1)
      rw [h2] at HO
      clear hB h1 h2
      go_wp2_with fail
      refine HO.out.mono ?_
      rintro e w2 ⟨rfl, hB⟩
      have T2 := Lib.hid (T1.out.trans (hB.mono T1.out.size))
      have HL := Lib.hid (l07Fit_any false va vo T os w2 (HH.out.1.below T2.out) (HH.out.2.below T2.out) HR0.out.1 HR0.out.2)
      clear hB
      go_wp2_with fail
      refine HL.out.mono ?_
      rintro e w3 ⟨u, rfl, own, hB⟩
      have T3 := Lib.hid (T2.out.trans (hB.mono T2.out.size))
      have O3 := Lib.hid (own.mono T2.out.size)
      clear hB own
      go_wp2_with fail
      go_returns
      exact ⟨_, rfl, O3.out, T3.out⟩

set_option maxRecDepth 100000 in
theorem implFirstFit_any (va vo : Value) (T : List Lt) (os : List Od) (w : World) (ha : Lts w va T) (ho : Ods w vo os) (hn0 : T.length ≤ 1048576) (hn1 : os.length ≤ 1048576) :
    Calls Try.prog 10 #[va, vo] w fun e w' => ∃ u, e = .returned (.tuple #[u, .int .i64 (fitF false T os).2]) ∧ Own w' w.heap.size u (fitF false T os).1 ∧ Below w.heap.size w w' := by
  have H := Lib.hid (fitA_any va vo T os w ha ho hn0 hn1)
  clear ha ho
  generalize (fitF false T os).1 = F at *
  generalize (fitF false T os).2 = C at *
  go_enter Try.func10, Try.ntmps10
  go_wp2_with fail
  refine H.out.mono ?_
  rintro e w1 ⟨u, rfl, own, hB⟩
  have T1 := Lib.hid hB
  have O1 := Lib.hid own
  clear hB own
  go_wp2_with fail
  go_returns
  exact ⟨_, rfl, O1.out, T1.out⟩

set_option maxRecDepth 100000 in
set_option maxHeartbeats 4000000 in
theorem specBestFit_any (va vo : Value) (T : List Lt) (os : List Od) (w : World) (ha : Lts w va T) (ho : Ods w vo os) (hn0 : T.length ≤ 1048576) (hn1 : os.length ≤ 1048576) :
    Calls Try.prog 18 #[va, vo] w fun e w' => ∃ u, e = .returned (.tuple #[u, .int .i64 (fitF true T os).2]) ∧ Own w' w.heap.size u (fitF true T os).1 ∧ Below w.heap.size w w' := by
  have HV := Lib.hid (specLts0_any va T w ha hn0)
  have HH := Lib.hid (And.intro ha ho)
  clear ha ho
  cases h1 : isLts T with
  | false =>
    rw [h1] at HV
    rw [fitF_no1 h1]
    clear h1
    go_enter Try.func18, Try.ntmps18
    go_wp2_with fail
    refine HV.out.mono ?_
    rintro e w1 ⟨rfl, hB⟩
    have T1 := Lib.hid hB
    have Z1 := Lib.hid hB.size
    clear hB
    go_wp2_with fail
    go_returns
    exact ⟨_, rfl, World.ownsRow_made w1 #[] 0 Z1.out (by decide) rfl, T1.out.alloc Z1.out _⟩
  | true =>
    rw [h1] at HV
    cases h2 : isOds os with
    | false =>
      rw [fitF_no2 h2]
      clear h1
      go_enter Try.func18, Try.ntmps18
      go_wp2_with fail
      refine HV.out.mono ?_
      rintro e w1 ⟨rfl, hB⟩
      have T1 := Lib.hid hB
      have HO := Lib.hid (specOds0_any vo os w1 (HH.out.2.below hB) hn1)
      rw [h2] at HO
      clear hB h2
      go_wp2_with fail
      refine HO.out.mono ?_
      rintro e w2 ⟨rfl, hB⟩
      have T2 := Lib.hid (T1.out.trans (hB.mono T1.out.size))
      have Z2 := Lib.hid T2.out.size
      clear hB
      go_wp2_with fail
      go_returns
      exact ⟨_, rfl, World.ownsRow_made w2 #[] 0 Z2.out (by decide) rfl, T2.out.alloc Z2.out _⟩
    | true =>
      rw [fitF_yes h1 h2]
      have HR0 := Lib.hid (And.intro h1 h2)
      go_enter Try.func18, Try.ntmps18
      go_wp2_with fail
      refine HV.out.mono ?_
      rintro e w1 ⟨rfl, hB⟩
      have T1 := Lib.hid hB
      have HO := Lib.hid (specOds0_any vo os w1 (HH.out.2.below hB) hn1)
      rw [h2] at HO
      clear hB h1 h2
      go_wp2_with fail
      refine HO.out.mono ?_
      rintro e w2 ⟨rfl, hB⟩
      have T2 := Lib.hid (T1.out.trans (hB.mono T1.out.size))
      have HL := Lib.hid (l07Fit_any true va vo T os w2 (HH.out.1.below T2.out) (HH.out.2.below T2.out) HR0.out.1 HR0.out.2)
      clear hB
      go_wp2_with fail
      refine HL.out.mono ?_
      rintro e w3 ⟨u, rfl, own, hB⟩
      have T3 := Lib.hid (T2.out.trans (hB.mono T2.out.size))
      have O3 := Lib.hid (own.mono T2.out.size)
      clear hB own
      go_wp2_with fail
      go_returns
      exact ⟨_, rfl, O3.out, T3.out⟩

set_option maxRecDepth 100000 in
theorem implBestFit_any (va vo : Value) (T : List Lt) (os : List Od) (w : World) (ha : Lts w va T) (ho : Ods w vo os) (hn0 : T.length ≤ 1048576) (hn1 : os.length ≤ 1048576) :
    Calls Try.prog 19 #[va, vo] w fun e w' => ∃ u, e = .returned (.tuple #[u, .int .i64 (fitF true T os).2]) ∧ Own w' w.heap.size u (fitF true T os).1 ∧ Below w.heap.size w w' := by
  have H := Lib.hid (fitB_any va vo T os w ha ho hn0 hn1)
  clear ha ho
  generalize (fitF true T os).1 = F at *
  generalize (fitF true T os).2 = C at *
  go_enter Try.func19, Try.ntmps19
  go_wp2_with fail
  refine H.out.mono ?_
  rintro e w1 ⟨u, rfl, own, hB⟩
  have T1 := Lib.hid hB
  have O1 := Lib.hid own
  clear hB own
  go_wp2_with fail
  go_returns
  exact ⟨_, rfl, O1.out, T1.out⟩

end Go.Proofs.Ytapimmlhcbjgoaa
