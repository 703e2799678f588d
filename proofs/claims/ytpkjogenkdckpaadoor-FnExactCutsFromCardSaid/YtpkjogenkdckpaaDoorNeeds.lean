/-
  No statement is proved here: yarns and needs, as the program and as the document's own text look at them; which yarn a need is cut from; condition: the errors lie where the text lays them; at most 1048576 yarns and needs.
-/
import Derived.Test.YtpkjogenkdckpaaDoorAsked
import Derived.Test.YtpkjogenkdckpaaDoorPlies
namespace Go.Proofs.YtpkjogenkdckpaaDoor
open Go.ChangeShapes Go.WideShapes Go.ChangeAt Go.RowKit

/-- The code of yarns and needs. -/
def needsF (ys : List Yn) (zs : List Int) : Int := if askedF ys (allL zs) = 0 then (if zs.length ≤ 6 then 0 else 3) else askedF ys (allL zs)
theorem needsF_bd (ys : List Yn) (zs : List Int) : 0 ≤ needsF ys zs ∧ needsF ys zs ≤ 3 := by
  have := askedF_bd ys (allL zs)
  unfold needsF
  split
  · split <;> omega
  · omega
theorem needsF_zero {ys : List Yn} {zs : List Int} (h : needsF ys zs = 0) : allY ys = true ∧ allL zs = true ∧ ys.length ≤ 10 ∧ zs.length ≤ 6 := by
  unfold needsF at h
  split at h
  · rename_i h1
    split at h
    · rename_i h2
      exact ⟨(askedF_zero h1).1, (askedF_zero h1).2.1, (askedF_zero h1).2.2, h2⟩
    · omega
  · omega

/-- The first number of at least d, or how many there are. -/
def firstAt : List Int → Int → Nat
  | [], _ => 0
  | x :: l, d => if d ≤ x then 0 else firstAt l d + 1
theorem firstAt_yes : ∀ (l : List Int) (d : Int) (k : Nat), k < l.length → (∀ j, j < k → l.getD j 0 < d) → d ≤ l.getD k 0 → firstAt l d = k
  | [], _, _, h, _, _ => by simp at h
  | x :: l, d, 0, _, _, h => by unfold firstAt; rw [if_pos (by simpa using h)]
  | x :: l, d, k + 1, hk, h, hd => by
    have h0 := h 0 (by omega)
    unfold firstAt
    rw [if_neg (by simp at h0; omega), firstAt_yes l d k (by simpa using hk) (fun j hj => by simpa using h (j + 1) (by omega)) (by simpa using hd)]
theorem firstAt_none : ∀ (l : List Int) (d : Int), (∀ j, j < l.length → l.getD j 0 < d) → firstAt l d = l.length
  | [], _, _ => rfl
  | x :: l, d, h => by
    have h0 := h 0 (by simp)
    unfold firstAt
    rw [if_neg (by simp at h0; omega), firstAt_none l d (fun j hj => by simpa using h (j + 1) (by simpa using hj))]
    rfl
/-- The number of the yarn that d is cut from, and what is left then. -/
def spoolAt (l : List Int) (d : Int) : Int := if firstAt l d < l.length then (firstAt l d : Int) else -1
def spoolOff (l : List Int) (d : Int) : List Int := if firstAt l d < l.length then l.set (firstAt l d) (l.getD (firstAt l d) 0 - d) else l
theorem spool_yes {l : List Int} {d : Int} {k : Nat} (hk : k < l.length) (h : ∀ j, j < k → l.getD j 0 < d) (hd : d ≤ l.getD k 0) : spoolAt l d = (k : Int) ∧ spoolOff l d = l.set k (l.getD k 0 - d) := by
  have e := firstAt_yes l d k hk h hd
  unfold spoolAt spoolOff
  rw [e, if_pos hk, if_pos hk]
  exact ⟨rfl, rfl⟩
theorem spool_none {l : List Int} {d : Int} (h : ∀ j, j < l.length → l.getD j 0 < d) : spoolAt l d = -1 ∧ spoolOff l d = l := by
  have e := firstAt_none l d h
  unfold spoolAt spoolOff
  rw [e, if_neg (by omega), if_neg (by omega)]
  exact ⟨rfl, rfl⟩
theorem spoolOff_length (l : List Int) (d : Int) : (spoolOff l d).length = l.length := by unfold spoolOff; split <;> simp
/-- What is left when the first k needs have been cut. -/
def leftTo (l ds : List Int) : Nat → List Int
  | 0 => l
  | k + 1 => spoolOff (leftTo l ds k) (ds.getD k 0)
def cutsTo (l ds : List Int) : Nat → List Int
  | 0 => []
  | k + 1 => cutsTo l ds k ++ [spoolAt (leftTo l ds k) (ds.getD k 0)]
theorem leftTo_length (l ds : List Int) : ∀ k, (leftTo l ds k).length = l.length
  | 0 => rfl
  | k + 1 => (spoolOff_length _ _).trans (leftTo_length l ds k)
theorem cutsTo_length (l ds : List Int) : ∀ k, (cutsTo l ds k).length = k
  | 0 => rfl
  | k + 1 => by rw [cutsTo, List.length_append, cutsTo_length l ds k]; rfl
theorem cutsTo_get (l ds : List Int) : ∀ m k, k < m → (cutsTo l ds m).getD k 0 = spoolAt (leftTo l ds k) (ds.getD k 0)
  | 0, k, h => by omega
  | m + 1, k, h => by
    by_cases e : k = m
    · subst e
      rw [cutsTo]
      simp [List.getD, cutsTo_length]
    · rw [← cutsTo_get l ds m k (by omega), cutsTo]
      simp [List.getD, List.getElem?_append, cutsTo_length, show k < m by omega]
theorem getD_set {l : List Int} {i j : Nat} {x : Int} (hi : i < l.length) : (l.set i x).getD j 0 = if j = i then x else l.getD j 0 := by
  by_cases h : j = i
  · subst h
    simp [List.getD, hi]
  · rw [if_neg h]
    simp [List.getD, List.getElem?_set_ne (Ne.symm h)]
theorem firstAt_spec : ∀ (l : List Int) (d : Int), firstAt l d < l.length → (∀ i, i < firstAt l d → l.getD i 0 < d) ∧ d ≤ l.getD (firstAt l d) 0
  | [], _, h => by simp at h
  | x :: l, d, h => by
    unfold firstAt at h ⊢
    by_cases hx : d ≤ x
    · rw [if_pos hx] at h ⊢
      exact ⟨fun i hi => by omega, by simpa using hx⟩
    · rw [if_neg hx] at h ⊢
      have ih := firstAt_spec l d (by simpa using h)
      refine ⟨fun i hi => ?_, by simpa using ih.2⟩
      cases i with
      | zero => simp; omega
      | succ i => simpa using ih.1 i (by omega)
theorem leftTo_bd {l ds : List Int} (hl : ∀ j, j < l.length → 0 ≤ l.getD j 0 ∧ l.getD j 0 ≤ 5000) (hd : ∀ j, j < ds.length → 1 ≤ ds.getD j 0) : ∀ k, k ≤ ds.length → ∀ j, j < l.length → 0 ≤ (leftTo l ds k).getD j 0 ∧ (leftTo l ds k).getD j 0 ≤ 5000
  | 0, _, j, hj => hl j hj
  | k + 1, hk, j, hj => by
    have ih := leftTo_bd hl hd k (by omega) j hj
    have h1 := hd k (by omega)
    have hlen := leftTo_length l ds k
    rw [leftTo]
    by_cases hex : ∃ m, m < (leftTo l ds k).length ∧ (∀ i, i < m → (leftTo l ds k).getD i 0 < ds.getD k 0) ∧ ds.getD k 0 ≤ (leftTo l ds k).getD m 0
    · obtain ⟨m, hm, h2, h3⟩ := hex
      have ihm := leftTo_bd hl hd k (by omega) m (by omega)
      rw [(spool_yes hm h2 h3).2, getD_set hm]
      split <;> omega
    · by_cases hlt : firstAt (leftTo l ds k) (ds.getD k 0) < (leftTo l ds k).length
      · have ihm := leftTo_bd hl hd k (by omega) _ (by omega : firstAt (leftTo l ds k) (ds.getD k 0) < l.length)
        exact absurd ⟨_, hlt, firstAt_spec _ _ hlt⟩ hex
      · unfold spoolOff
        rw [if_neg hlt]
        exact ih
set_option maxRecDepth 100000 in
set_option maxHeartbeats 4000000 in
theorem l03Needs_any (v u : Value) (ys : List Yn) (zs : List Int) (w : World) (h : Yarns w v ys) (hz : Ints w u zs) (hn : ys.length ≤ 1048576) (hm : zs.length ≤ 1048576) :
    Calls Tryd.prog 64 #[v, u] w fun e w' => e = .returned (.int .i64 (needsF ys zs)) ∧ Below w.heap.size w w' := by
  have HA := Lib.hid (l03Asked_any v ys (allL zs) w h hn)
  have HO := Lib.hid (show needsF ys zs = if askedF ys (allL zs) = 0 then (if zs.length ≤ 6 then 0 else 3) else askedF ys (allL zs) from rfl)
  generalize needsF ys zs = out at *
  by_cases h0 : zs.length = 0
  · have hx : zs = [] := List.length_eq_zero_iff.1 h0
    subst hx
    obtain ⟨a1, c1, rfl⟩ := hz.nil
    rw [show allL [] = true from rfl] at HA HO
    obtain ⟨a0, c0, rfl⟩ := h.len
    generalize askedF ys true = c at *
    clear h hz
    by_cases hc : c = 0
    · subst hc
      have HP := Lib.hid (show out = 0 by rw [HO.out]; simp)
      clear HO
      go_enter Tryd.func64, Tryd.ntmps64
      go_wp2
      refine wp_loop_rounds 1 ?_
      rw [rounds_succ]
      go_wp2_with fail
      refine HA.out.mono ?_
      rintro e w1 ⟨rfl, hB⟩
      have B1 := Lib.hid hB
      clear hB
      go_wp2_with fail
      go_ret
      exact ⟨ret_int HP.out.symm, B1.out⟩
    · have HP := Lib.hid (show out = c by rw [HO.out, if_neg hc])
      have hcb : (c == 0) = false := by simp [hc]
      clear HO
      go_enter Tryd.func64, Tryd.ntmps64
      go_wp2
      refine wp_loop_rounds 1 ?_
      rw [rounds_succ]
      go_wp2_with fail
      refine HA.out.mono ?_
      rintro e w1 ⟨rfl, hB⟩
      have B1 := Lib.hid hB
      clear hB
      go_wp2_with fail
      go_ret
      exact ⟨ret_int HP.out.symm, B1.out⟩
  · obtain ⟨b1, o1, c1, rfl, hc1⟩ := hz.pos (by omega)
    obtain ⟨a0, c0, rfl⟩ := h.len
    have U1 := Lib.hid (allL_step zs)
    have U3 := Lib.hid (show allL (zs.take zs.length) = allL zs by rw [List.take_length])
    obtain ⟨n, hln⟩ : ∃ n, n = zs.length := ⟨_, rfl⟩
    rw [← hln] at U1 U3 hc1 hm h0 HO ⊢
    have HC := Lib.hid hc1
    clear hc1 hln h hz
    obtain ⟨r, hr⟩ : ∃ r, r = allL zs := ⟨_, rfl⟩
    rw [← hr] at U3 HO HA
    clear hr
    generalize askedF ys r = c at *
    go_enter Tryd.func64, Tryd.ntmps64
    go_wp2
    go_loop [5, 6] (fun f i => ∃ k : Nat, ∃ q : Bool, k ≤ n ∧ i = .int .i64 k ∧ f = .bool q ∧ Hid (q = allL (zs.take k))) (fun _ i => n - (intOf i).toNat)
    case atStart => exact ⟨0, true, Nat.zero_le _, rfl, rfl, by rfl⟩
    case round =>
      obtain ⟨k, q, hk, rfl, rfl, hS⟩ := hrel
      by_cases hlt : k < n
      · have c1 : w.cell? ⟨b1, o1 + k, none⟩ = some (.int .i64 (zs.getD k 0)) := HC.out k hlt
        have u1 := U1.out k hlt
        rw [← hS.out] at u1
        generalize zs.getD k 0 = z at *
        have HI := Lib.hid fun wx => in_any z 1 5000 wx
        have HE := Lib.hid u1
        clear u1 hS
        cases q with
        | true =>
          generalize inB z 1 5000 = iz at *
          go_wp2_with fail
          refine (HI.out _).mono ?_
          rintro e w' ⟨rfl, rfl⟩
          go_wp2
          go_round
          case rel => exact ⟨k + 1, iz, by omega, by go_num, rfl, Lib.hid (by rw [HE.out]; rfl)⟩
          case measure => simp [intOf]; omega
        | false =>
          go_wp2
          go_round
          case rel => exact ⟨k + 1, false, by omega, by go_num, rfl, Lib.hid (by rw [HE.out]; rfl)⟩
          case measure => simp [intOf]; omega
      · have hkn : k = n := by omega
        subst hkn
        obtain rfl : q = r := hS.out.trans U3.out
        by_cases hc : c = 0
        · subst hc
          by_cases h6 : k ≤ 6
          · have HP := Lib.hid (show out = 0 by rw [HO.out]; simp [h6])
            clear HO hS U3 U1
            go_wp2_with fail
            refine HA.out.mono ?_
            rintro e w1 ⟨rfl, hB⟩
            have B1 := Lib.hid hB
            clear hB
            go_wp2_with fail
            go_ret
            exact ⟨ret_int HP.out.symm, B1.out⟩
          · have HP := Lib.hid (show out = 3 by rw [HO.out]; simp [h6])
            have h6' : 6 < k := by omega
            clear HO hS U3 U1
            go_wp2_with fail
            refine HA.out.mono ?_
            rintro e w1 ⟨rfl, hB⟩
            have B1 := Lib.hid hB
            clear hB
            go_wp2_with fail
            go_ret
            exact ⟨ret_int HP.out.symm, B1.out⟩
        · have HP := Lib.hid (show out = c by rw [HO.out, if_neg hc])
          have hcb : (c == 0) = false := by simp [hc]
          clear HO hS U3 U1
          go_wp2_with fail
          refine HA.out.mono ?_
          rintro e w1 ⟨rfl, hB⟩
          have B1 := Lib.hid hB
          clear hB
          go_wp2_with fail
          go_ret
          exact ⟨ret_int HP.out.symm, B1.out⟩

/-- Yarns, lengths, and how many. -/
theorem check3l_any (p : Nat → Addr) (b cap : Nat) (x u : Value) (ys : List Yn) (zs : List Int) (w : World) (hs : Sent w p) (hY : Yarns w x ys) (hZ : Ints w u zs) (hn : ys.length ≤ 1048576) (hm : zs.length ≤ 1048576)
    (c0 : w.cell? ⟨b, 0, none⟩ = some (.iface 82 x)) (c1 : w.cell? ⟨b, 1, none⟩ = some (.iface 102 u))
    (c2 : w.cell? ⟨b, 2, none⟩ = some (.iface 85 (.int .i64 ys.length))) :
    Calls Tryd.prog 44 #[.slice (some ⟨b, 0, none⟩) 3 cap] w fun e w' => e = .returned (errOf p (askedF ys (allL zs))) ∧ Below w.heap.size w w' := by
  refine (check_any p b 0 3 cap (three (.iface 82 x) (.iface 102 u) (.iface 85 (.int .i64 ys.length)))
    (three (allY ys) (allL zs) (decide ((ys.length : Int) ≤ 10))) (three 0 1 2) w hs (by omega) (by omega) (World.block_lt_of_cell? w _ c0) (fun j hj => ?_) (fun j hj => ?_)).mono fun e w' ⟨he, hw⟩ => ⟨?_, hw⟩
  · match j, hj with
    | 0, _ => simpa [three] using c0
    | 1, _ => simpa [three] using c1
    | 2, _ => simpa [three] using c2
  · match j, hj with
    | 0, _ => exact .inl ⟨x, ys, rfl, hY, hn, rfl, rfl⟩
    | 1, _ => exact .inr (.inr (.inl ⟨u, zs, rfl, hZ, hm, rfl, rfl⟩))
    | 2, _ => exact .inr (.inr (.inr ⟨_, rfl, rfl, rfl⟩))
  · rw [he, firstNo_three]
    congr 1
    unfold askedF
    cases allY ys with
    | false => rfl
    | true =>
      cases allL zs with
      | false => rfl
      | true =>
        by_cases h2 : ys.length ≤ 10
        · simp [h2, errV, errOf, show (ys.length : Int) ≤ 10 by omega]
        · simp [h2, errV, errOf, show ¬ (ys.length : Int) ≤ 10 by omega]

set_option maxRecDepth 100000 in
set_option maxHeartbeats 4000000 in
theorem checkCuts_any (p : Nat → Addr) (v u : Value) (ys : List Yn) (zs : List Int) (w : World) (hs : Sent w p) (h : Yarns w v ys) (hz : Ints w u zs) (hn : ys.length ≤ 1048576) (hm : zs.length ≤ 1048576) :
    Calls Tryd.prog 65 #[v, u] w fun e w' => e = .returned (errOf p (needsF ys zs)) ∧ Below w.heap.size w w' := by
  obtain ⟨a0, c0, rfl⟩ := h.len
  have hul : ∃ a1 c1, u = .slice a1 zs.length c1 := by
    rcases hz with ⟨a, c, rfl, rfl⟩ | ⟨b, off, c, rfl, _⟩
    · exact ⟨_, _, rfl⟩
    · exact ⟨_, _, rfl⟩
  obtain ⟨a1, c1, rfl⟩ := hul
  have H2 := Lib.hid (check3l_any p w.heap.size 3 (.slice a0 ys.length c0) (.slice a1 zs.length c1) ys zs (w.alloc (.cells #[.iface 82 (.slice a0 ys.length c0), .iface 102 (.slice a1 zs.length c1), .iface 85 (.int .i64 ys.length)] 101))
    (hs.below ((Below.refl _ _).alloc (Nat.le_refl _) _)) (h.below ((Below.refl _ _).alloc (Nat.le_refl _) _)) (hz.below ((Below.refl _ _).alloc (Nat.le_refl _) _)) hn hm (by simp [go_sem]) (by simp [go_sem]) (by simp [go_sem]))
  have HO := Lib.hid (show needsF ys zs = if askedF ys (allL zs) = 0 then (if zs.length ≤ 6 then 0 else 3) else askedF ys (allL zs) from rfl)
  have H3 := Lib.hid (show ∀ w', Below w.heap.size w w' → w'.cell? ⟨1, 0, none⟩ = some (errAt (p 2)) from fun w' hB => (hs.below hB).1.2.2.1)
  generalize needsF ys zs = out at *
  generalize askedF ys (allL zs) = c at *
  have q1 := neqNil_err
  have q2 := neqNil_nil
  obtain ⟨n, hln⟩ : ∃ n, n = zs.length := ⟨_, rfl⟩
  rw [← hln] at H2 HO hm ⊢
  clear hs h hz hln
  by_cases hc : c = 0
  · subst hc
    rw [errOf_zero] at H2
    by_cases h6 : n ≤ 6
    · have HP := Lib.hid (show out = 0 by rw [HO.out]; simp [h6])
      clear HO
      go_enter Tryd.func65, Tryd.ntmps65
      go_wp2_with fail
      refine H2.out.mono ?_
      rintro e w1 ⟨rfl, hB⟩
      have B1 := Lib.hid (((Below.refl w.heap.size w).alloc (Nat.le_refl _) _).trans (hB.mono (by simp)))
      clear hB
      go_wp2_with fail
      go_ret
      exact ⟨by rw [HP.out]; rfl, B1.out⟩
    · have HP := Lib.hid (show out = 3 by rw [HO.out]; simp [h6])
      have h6' : 6 < n := by omega
      clear HO
      go_enter Tryd.func65, Tryd.ntmps65
      go_wp2_with fail
      refine H2.out.mono ?_
      rintro e w1 ⟨rfl, hB⟩
      have B1 := Lib.hid (((Below.refl w.heap.size w).alloc (Nat.le_refl _) _).trans (hB.mono (by simp)))
      have g3 := H3.out _ B1.out
      clear hB
      go_wp2_with fail
      go_ret
      exact ⟨by rw [HP.out]; rfl, B1.out⟩
  · rw [errOf_not p hc] at H2
    have HP := Lib.hid (show errOf p out = errAt (p (c - 1).toNat) by rw [HO.out, if_neg hc, errOf_not p hc])
    clear HO
    generalize p (c - 1).toNat = ad at *
    go_enter Tryd.func65, Tryd.ntmps65
    go_wp2_with fail
    refine H2.out.mono ?_
    rintro e w1 ⟨rfl, hB⟩
    have B1 := Lib.hid (((Below.refl w.heap.size w).alloc (Nat.le_refl _) _).trans (hB.mono (by simp)))
    clear hB
    go_wp2_with fail
    go_ret
    exact ⟨by rw [HP.out]; rfl, B1.out⟩
end Go.Proofs.YtpkjogenkdckpaaDoor
