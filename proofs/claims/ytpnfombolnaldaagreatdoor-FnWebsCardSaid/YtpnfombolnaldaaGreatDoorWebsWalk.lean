/-
  Proved here: the law on webs answers true, for all arguments; condition: the library's variables hold what they should.
-/
import Derived.Test.YtpnfombolnaldaaGreatDoorWebsBody
namespace Go.Proofs.YtpnfombolnaldaaGreatDoor
open Go.ChangeShapes Go.WideShapes Go.ChangeAt Go.RowKit

/-- A walk of a code is one of its name. -/
theorem code_as {P : Program} {c c' : Code} {Q : Exit → Act → World → Prop} {a : Act} {w : World} (h : c = c') (hw : Code.wp P c' Q a w) : Code.wp P c Q a w := h ▸ hw
theorem four {w : World} {v1 v2 v3 v4 : Value} {z1 z2 z3 z4 : List Int} (h1 : Ints w v1 z1) (h2 : Ints w v2 z2) (h3 : Ints w v3 z3) (h4 : Ints w v4 z4) : All w [(v1, z1), (v2, z2), (v3, z3), (v4, z4)] := by
  intro p hp
  rcases List.mem_cons.1 hp with e | e
  · subst e
    exact h1
  · rcases List.mem_cons.1 e with e | e
    · subst e
      exact h2
    · exact All.two h3 h4 p e
theorem dbl_facts {zs : List Int} {n h : Nat} (hok : okW zs = true) (hn : n = zs.length) (hh : n / 2 = h) (k : Nat) (hk : k < h) :
    (dblTo zs true h).getD k 0 = zs.getD k 0 + zs.getD (n - 1 - k) 0 ∧ (dblTo zs false h).getD k 0 = zs.getD k 0 + zs.getD (k + h) 0 ∧
    ∃ q0 q1 : Int, (laid true zs).getD (2 * k) 0 = q1 ∧ (laid true zs).getD (2 * k + 1) 0 = q0 ∧ q1 + q0 = zs.getD k 0 + zs.getD (n - 1 - k) 0 ∧ q1 - q0 ≤ 1 ∧ q0 ≤ q1 ∧ 0 ≤ q0 ∧ q1 ≤ 10000 := by
  have hl := okW_len hok
  have h1 := dblTo_get zs true h k hk
  have h2 := dblTo_get zs false h k hk
  have m1 : mate true zs.length k = n - 1 - k := by rw [← hn]; rfl
  have m2 : mate false zs.length k = k + h := by rw [← hn, ← hh]; rfl
  rw [m1] at h1
  rw [m2] at h2
  have b1 := okW_get hok k (by omega)
  have b2 := okW_get hok (n - 1 - k) (by omega)
  obtain ⟨o1, o2⟩ := out_get (dblTo zs true h) k (by rw [dblTo_length]; exact hk)
  refine ⟨h1, h2, _, _, rfl, rfl, ?_⟩
  rw [laid, ← hn, hh, o1, o2, h1]
  omega

set_option linter.unusedVariables false in
set_option maxRecDepth 100000 in
set_option maxHeartbeats 40000000 in
theorem webs_walk {H : Type} {enc : TypeId × Value → H} (w : World) (base : Nat)
    (v0 : Value) (d0 : DataW H) (p0 : List MemPlace) (o0 : Value.okWide Tryz.prog w .any base 22 v0) (k0 : DataW.Trod enc Tryz.prog w 0 (fun _ => true) true 22 v0 d0 p0)
    (v1 : Value) (d1 : DataW H) (p1 : List MemPlace) (o1 : Value.okWide Tryz.prog w .any base 22 v1) (k1 : DataW.Trod enc Tryz.prog w 0 (fun _ => true) true 22 v1 d1 p1)
    (henv : Env w) :
    Calls Tryz.prog 3 #[v0, v1] w fun e w' => e = .returned (.bool true) ∧ Below w.heap.size w w' := by
  obtain ⟨xs, hx⟩ := open_bytes o0 k0
  obtain ⟨ys, hy⟩ := open_bytes o1 k1
  clear o0 k0 o1 k1
  have hlong := long_any v0 v1 xs ys w hx hy
  by_cases hL : 3000 < xs.length ∨ 3000 < ys.length
  · have e : (decide (3000 < xs.length) || decide (3000 < ys.length)) = true := by simpa using hL
    rw [e] at hlong
    have HL := Lib.hid hlong
    clear hlong hx hy hL e henv
    go_enter Tryz.func3, Tryz.ntmps3
    go_wp2_with fail
    refine HL.out.mono ?_
    rintro e w' ⟨rfl, rfl⟩
    go_wp2_with fail
    go_ret
    exact ⟨rfl, Below.refl _ _⟩
  · have e : (decide (3000 < xs.length) || decide (3000 < ys.length)) = false := by
      have h1 : ¬ 3000 < xs.length := fun h => hL (.inl h)
      have h2 : ¬ 3000 < ys.length := fun h => hL (.inr h)
      simp [h1, h2]
    rw [e] at hlong
    have HL := Lib.hid hlong
    have hnx : xs.length ≤ 3000 := by omega
    have hny : ys.length ≤ 3000 := by omega
    have HV := Lib.hid henv
    have HX := Lib.hid hx
    have HY := Lib.hid hy
    have HWEB := Lib.hid (a2Web_any v0 xs w hx hnx)
    clear hlong hL e hx hy henv
    go_enter Tryz.func3, Tryz.ntmps3
    go_wp2_with fail
    refine HL.out.mono ?_
    rintro e w' ⟨rfl, rfl⟩
    go_wp2_with fail
    refine HWEB.out.mono ?_
    rintro e w1 ⟨r, zs, rfl, own, hok, hB⟩
    obtain ⟨n, hln⟩ : ∃ n, n = zs.length := ⟨_, rfl⟩
    obtain ⟨wa, wc, rfl, ow2⟩ := ownN own hln.symm
    obtain ⟨wb, wo, rfl⟩ := ow2.ints.addr (by have := hok.1; omega)
    have O := Lib.hid ow2
    have T := Lib.hid hB
    have Y := Lib.hid (HY.out.below hB)
    obtain ⟨hn2, hn8, hev, _⟩ := hok
    have OK := Lib.hid (okD_okW ⟨hn2, hn8, hev, by assumption⟩)
    rename_i hthin
    clear hthin own ow2 hB HWEB HL HX HY
    rw [← hln] at hn2 hn8 hev
    have HN := Lib.hid hln
    clear hln
    go_wp2_with fail
    refine (a2Passes_any v1 ys w1 Y.out hny).mono ?_
    rintro e w2 ⟨s, rfl, hP, hB⟩
    replace O := Lib.hid (O.out.below hB)
    replace T := Lib.hid (T.out.trans (hB.mono T.out.size))
    replace Y := Lib.hid (Y.out.below hB)
    have HP := Lib.hid hP
    clear hB hP
    go_wp2_with fail
    refine (a2At_any v1 ys 7 30 w2 Y.out hny (by omega) (by omega) (by omega) (by omega)).mono ?_
    rintro e w3 ⟨p, rfl, hp0, hp1, hB⟩
    replace O := Lib.hid (O.out.below hB)
    replace T := Lib.hid (T.out.trans (hB.mono T.out.size))
    replace Y := Lib.hid (Y.out.below hB)
    clear hB
    go_wp2_with fail
    refine (text_t _ zs n w3 O.out.ints OK.out HN.out.symm (HV.out.below T.out).2.2.2).mono ?_
    rintro e w4 ⟨rfl, hB⟩
    replace O := Lib.hid (O.out.below hB)
    replace T := Lib.hid (T.out.trans (hB.mono T.out.size))
    replace Y := Lib.hid (Y.out.below hB)
    clear hB
    obtain ⟨tx, htx⟩ : ∃ tx : ByteArray, tx = ⟨(txtTo zs n).toArray⟩ := ⟨_, rfl⟩
    have HR := Lib.hid fun wx hv => read_t zs n wx OK.out HN.out.symm hv
    rw [← htx] at HR ⊢
    clear htx
    go_wp2_with fail
    refine (HR.out _ (HV.out.below T.out)).mono ?_
    rintro e w5 ⟨ra, rc, rfl, own, hB⟩
    have A : Hid (All w5 [(.slice ra n rc, zs), (.slice (some ⟨wb, wo, none⟩) n wc, zs)]) := All.two own.ints (O.out.below hB).ints
    replace O := Lib.hid (O.out.below hB)
    replace T := Lib.hid (T.out.trans (hB.mono T.out.size))
    replace Y := Lib.hid (Y.out.below hB)
    clear hB HR own
    obtain ⟨S, hS⟩ : ∃ S, S = zs.sum := ⟨_, rfl⟩
    have HS := Lib.hid hS
    have C := Lib.hid fun wx hx => implTotal_t (.slice (some ⟨wb, wo, none⟩) n wc) zs wx hx OK.out
    rw [← hS] at C
    clear hS
    go_wp2_with fail
    refine (C.out _ O.out.ints).mono ?_
    rintro e w6 ⟨rfl, rfl⟩
    clear C
    obtain ⟨Q, g, hF, hq1, hq2, hq3, hq4, hq5⟩ := cards_keep (p := p) (cs := codes s) OK.out (inB_mk ⟨hp0, by omega⟩) (by rw [codes_length]; have := HP.out.1; omega) HP.out.2
    rw [← HN.out] at hq2
    rw [← HS.out] at hq3
    have HF := Lib.hid hF
    have Q1 := Lib.hid hq1
    have Q2 := Lib.hid hq2
    have Q3 := Lib.hid hq3
    have Q4 := Lib.hid hq4
    have Q5 := Lib.hid hq5
    clear hF hq1 hq2 hq3 hq4 hq5
    go_wp2_with fail
    refine (implCard_t (.slice (some ⟨wb, wo, none⟩) n wc) zs s p g Q n w5 O.out.ints HF.out Q2.out OK.out).mono ?_
    rintro e w7 ⟨aa, ac, rfl, own, hB⟩
    replace A := Lib.hid (A.out.push hB own.ints)
    replace O := Lib.hid (O.out.below hB)
    replace T := Lib.hid (T.out.trans (hB.mono T.out.size))
    replace Y := Lib.hid (Y.out.below hB)
    clear hB own
    go_wp2_with fail
    refine (specCard_t (.slice (some ⟨wb, wo, none⟩) n wc) zs s p g Q n w7 O.out.ints HF.out Q2.out OK.out).mono ?_
    rintro e w8 ⟨da, dc, rfl, own, hB⟩
    replace A := Lib.hid (A.out.push hB own.ints)
    replace O := Lib.hid (O.out.below hB)
    replace T := Lib.hid (T.out.trans (hB.mono T.out.size))
    replace Y := Lib.hid (Y.out.below hB)
    clear hB own
    go_wp2_with fail
    refine (a2At_any v1 ys 8 40 w8 Y.out hny (by omega) (by omega) (by omega) (by omega)).mono ?_
    rintro e w9 ⟨b0, rfl, hb0, hb1, hB⟩
    replace A := Lib.hid (A.out.below hB)
    replace O := Lib.hid (O.out.below hB)
    replace T := Lib.hid (T.out.trans (hB.mono T.out.size))
    replace Y := Lib.hid (Y.out.below hB)
    clear hB
    obtain ⟨b, hb⟩ : ∃ b, b = b0 - 20 := ⟨_, rfl⟩
    have hbb : -1000 ≤ b ∧ b ≤ 1000 := by omega
    have hwr : wrap64 (b0 - 20) = b := by rw [hb]; exact IntWalk.wrap64_in _ (by omega)
    clear hb hb0 hb1
    go_wp2_with fail
    rw [hwr]
    clear hwr
    obtain ⟨R, hR⟩ : ∃ R, R = rollL zs (rollP b n) := ⟨_, rfl⟩
    have C1 := Lib.hid fun wx ho => implRoll_t (.slice (some ⟨wb, wo, none⟩) n wc) zs b n wx (base := w.heap.size) ho hbb OK.out HN.out.symm
    have C2 := Lib.hid fun wx hx => specRoll_t (.slice (some ⟨wb, wo, none⟩) n wc) zs b n wx hx hbb OK.out HN.out.symm
    have hRok : okW R = true := by rw [hR]; exact roll_ok _ OK.out (by rw [← HN.out]; exact rollP_lt b n (by omega))
    have hRn : R.length = n := by rw [hR, rollL_length]; exact HN.out.symm
    have hRb : rollL R (rollP (-b) n) = zs := by
      have h := roll_twice zs b (by rw [← HN.out]; omega)
      rw [← HN.out, ← hR] at h
      exact h
    rw [← hR] at C1 C2
    have R1 := Lib.hid hRok
    have R2 := Lib.hid hRn
    have R3 := Lib.hid hRb
    clear hRok hRn hRb hR
    refine (C1.out _ O.out).mono ?_
    rintro e w10 ⟨la, lc, rfl, own, hB⟩
    replace A := Lib.hid (A.out.push hB own.ints)
    replace O := Lib.hid (O.out.below hB)
    replace T := Lib.hid (T.out.trans (hB.mono T.out.size))
    clear hB own C1 Y
    go_wp2_with fail
    refine (C2.out _ O.out.ints).mono ?_
    rintro e w11 ⟨ma, mc, rfl, own, hB⟩
    have B0 := T.out.size
    have M : Hid (Own w11 w.heap.size (.slice ma n mc) R) := own.mono (by simpa using B0)
    replace A := Lib.hid (A.out.push hB own.ints)
    replace O := Lib.hid (O.out.below hB)
    replace T := Lib.hid (T.out.trans (hB.mono T.out.size))
    clear hB own C2 B0
    go_wp2_with fail
    have C3 := Lib.hid fun wx ho => implRoll_t (.slice ma n mc) R (-b) n wx (base := w.heap.size) ho (by omega) R1.out R2.out
    rw [R3.out] at C3
    refine (C3.out _ M.out).mono ?_
    rintro e w12 ⟨ba, bc, rfl, own, hB⟩
    replace A := Lib.hid (A.out.push hB own.ints)
    replace O := Lib.hid (O.out.below hB)
    replace T := Lib.hid (T.out.trans (hB.mono T.out.size))
    clear hB own C3 M R3
    obtain ⟨V, hV⟩ : ∃ V, V = zs.reverse := ⟨_, rfl⟩
    have D1 := Lib.hid fun wx hx => implMirror_t (.slice (some ⟨wb, wo, none⟩) n wc) zs n wx hx OK.out HN.out.symm
    have D2 := Lib.hid fun wx hx => specMirror_t (.slice (some ⟨wb, wo, none⟩) n wc) zs n wx hx OK.out HN.out.symm
    have hVok : okW V = true := by rw [hV]; exact rev_ok OK.out
    have hVn : V.length = n := by rw [hV, List.length_reverse]; exact HN.out.symm
    have hVb : V.reverse = zs := by rw [hV, List.reverse_reverse]
    rw [← hV] at D1 D2
    have V1 := Lib.hid hVok
    have V2 := Lib.hid hVn
    have V3 := Lib.hid hVb
    clear hVok hVn hVb hV
    go_wp2_with fail
    refine (D1.out _ O.out.ints).mono ?_
    rintro e w13 ⟨ia, ic, rfl, own, hB⟩
    replace A := Lib.hid (A.out.push hB own.ints)
    replace O := Lib.hid (O.out.below hB)
    replace T := Lib.hid (T.out.trans (hB.mono T.out.size))
    clear hB own D1
    go_wp2_with fail
    refine (D2.out _ O.out.ints).mono ?_
    rintro e w14 ⟨ta, tc, rfl, own, hB⟩
    replace A := Lib.hid (A.out.push hB own.ints)
    replace O := Lib.hid (O.out.below hB)
    replace T := Lib.hid (T.out.trans (hB.mono T.out.size))
    clear hB own D2
    have D3 := Lib.hid fun wx hx => implMirror_t (.slice ta n tc) V n wx hx V1.out V2.out
    rw [V3.out] at D3
    go_wp2_with fail
    refine (D3.out _ (A.out.get 0 rfl)).mono ?_
    rintro e w15 ⟨ga, gc, rfl, own, hB⟩
    replace A := Lib.hid (A.out.push hB own.ints)
    replace O := Lib.hid (O.out.below hB)
    replace T := Lib.hid (T.out.trans (hB.mono T.out.size))
    clear hB own D3 V3 V1
    obtain ⟨D, hD⟩ : ∃ D, D = mxTo zs zs.length - mnTo zs zs.length := ⟨_, rfl⟩
    have E1 := Lib.hid fun wx hx => implSpread_t (.slice (some ⟨wb, wo, none⟩) n wc) zs wx hx OK.out
    rw [← hD] at E1
    have hD0 : 0 ≤ D := by
      have := mx_le (zs := zs) (by rw [← HN.out]; omega)
      omega
    have HD := Lib.hid hD
    clear hD
    go_wp2_with fail
    refine (E1.out _ O.out.ints).mono ?_
    rintro e w16 ⟨rfl, rfl⟩
    clear E1
    go_wp2_with fail
    refine (a2Same_any _ _ zs _ (A.out.get 8 rfl) (A.out.get 9 rfl) (by have := HN.out; omega)).mono ?_
    rintro e w17 ⟨rfl, hB⟩
    replace A := Lib.hid (A.out.below hB)
    replace O := Lib.hid (O.out.below hB)
    replace T := Lib.hid (T.out.trans (hB.mono T.out.size))
    clear hB
    go_wp2_with fail
    refine (valid_t _ zs _ O.out.ints OK.out).mono ?_
    rintro e w18 ⟨rfl, rfl⟩
    go_wp2_with fail
    refine (a2Same_any _ _ Q _ (A.out.get 7 rfl) (A.out.get 6 rfl) (by have := Q2.out; omega)).mono ?_
    rintro e w19 ⟨rfl, hB⟩
    replace A := Lib.hid (A.out.below hB)
    replace O := Lib.hid (O.out.below hB)
    replace T := Lib.hid (T.out.trans (hB.mono T.out.size))
    clear hB
    go_wp2_with fail
    refine (a2Same_any _ _ R _ (A.out.get 5 rfl) (A.out.get 4 rfl) (by have := R2.out; omega)).mono ?_
    rintro e w20 ⟨rfl, hB⟩
    replace A := Lib.hid (A.out.below hB)
    replace O := Lib.hid (O.out.below hB)
    replace T := Lib.hid (T.out.trans (hB.mono T.out.size))
    clear hB
    go_wp2_with fail
    refine (a2Same_any _ _ zs _ (A.out.get 3 rfl) (A.out.get 9 rfl) (by have := HN.out; omega)).mono ?_
    rintro e w21 ⟨rfl, hB⟩
    replace A := Lib.hid (A.out.below hB)
    replace O := Lib.hid (O.out.below hB)
    replace T := Lib.hid (T.out.trans (hB.mono T.out.size))
    clear hB
    go_wp2_with fail
    refine (a2Same_any _ _ V _ (A.out.get 2 rfl) (A.out.get 1 rfl) (by have := V2.out; omega)).mono ?_
    rintro e w22 ⟨rfl, hB⟩
    replace A := Lib.hid (A.out.below hB)
    replace O := Lib.hid (O.out.below hB)
    replace T := Lib.hid (T.out.trans (hB.mono T.out.size))
    clear hB
    go_wp2_with fail
    refine (a2Same_any _ _ zs _ (A.out.get 0 rfl) (A.out.get 9 rfl) (by have := HN.out; omega)).mono ?_
    rintro e w23 ⟨rfl, hB⟩
    replace A := Lib.hid (A.out.below hB)
    replace O := Lib.hid (O.out.below hB)
    replace T := Lib.hid (T.out.trans (hB.mono T.out.size))
    clear hB
    obtain ⟨db, d0, rfl⟩ := (A.out.get 6 rfl).addr (by rw [Q2.out]; omega)
    replace A : Hid (All w23 [(.slice (some ⟨db, d0, none⟩) n dc, Q), (.slice (some ⟨wb, wo, none⟩) n wc, zs)]) := All.two (A.out.get 6 rfl) (A.out.get 9 rfl)
    clear R1 R2 V2 hbb
    go_wp2_with fail
    have GZ := Lib.hid (okW_get OK.out)
    have GQ := Lib.hid (okW_get Q1.out)
    rw [← HN.out] at GZ
    rw [Q2.out] at GQ
    have SZ := Lib.hid (sum_step zs)
    have SQ := Lib.hid (sum_step Q)
    rw [← HN.out] at SZ
    rw [Q2.out] at SQ
    go_loopw [33, 34, 35] (fun a c i wr => ∃ (k : Nat) (x y : Int), k ≤ n ∧ i = .int .i64 k ∧ a = .int .i64 x ∧ c = .int .i64 y ∧ 0 ≤ x ∧ x ≤ 10000 * (k : Int) ∧ 0 ≤ y ∧ y ≤ 10000 * (k : Int) ∧ Hid (x = (zs.take k).sum) ∧ Hid (y = (Q.take k).sum) ∧ Hid (All wr [(.slice (some ⟨db, d0, none⟩) n dc, Q), (.slice (some ⟨wb, wo, none⟩) n wc, zs)]) ∧ Hid (Own wr w.heap.size (.slice (some ⟨wb, wo, none⟩) n wc) zs) ∧ Hid (Below w.heap.size w wr)) (fun _ _ i _ => n - (intOf i).toNat)
    case atStart => exact ⟨0, 0, 0, Nat.zero_le _, rfl, rfl, rfl, by omega, by omega, by omega, by omega, rfl, rfl, A, O, T⟩
    case round =>
      clear A O T
      obtain ⟨k, x, y, hk, rfl, rfl, rfl, hx0, hx1, hy0, hy1, hX, hY, A, O, T⟩ := hrel
      by_cases hlt : k < n
      · have hki : (k : Int) < (n : Int) := by omega
        have cz := (A.out.get 1 rfl).at k (by rw [← HN.out]; exact hlt)
        have cq := (A.out.get 0 rfl).at k (by rw [Q2.out]; exact hlt)
        have hz := GZ.out k hlt
        have hq := GQ.out k hlt
        have s1 := SZ.out k hlt
        have s2 := SQ.out k hlt
        rw [← hX.out] at s1
        rw [← hY.out] at s2
        obtain ⟨z, hzz⟩ : ∃ z, z = zs.getD k 0 := ⟨_, rfl⟩
        obtain ⟨q, hqq⟩ : ∃ q, q = Q.getD k 0 := ⟨_, rfl⟩
        rw [← hzz] at cz hz s1
        rw [← hqq] at cq hq s2
        have U1 := Lib.hid s1
        have U2 := Lib.hid s2
        clear hzz hqq hX hY s1 s2
        go_wp2_with fail
        go_roundw
        case rel => exact ⟨k + 1, x + z, y + q, by omega, by go_num, by go_num, by go_num, by omega, by omega, by omega, by omega, U1.out.symm, U2.out.symm, A, O, T⟩
        case measure => simp [intOf]; omega
      · have hkn : n = k := by omega
        subst hkn
        have e1 : S = x := by rw [hX.out, HS.out, List.take_of_length_le (by rw [← HN.out]; exact Nat.le_refl _)]
        subst e1
        have e2 : y = S - g := by
          have e3 : y + g = S := by rw [hY.out, List.take_of_length_le (by rw [Q2.out]; exact Nat.le_refl _)]; exact Q3.out
          omega
        clear hX hY SZ SQ
        subst e2
        have hg0 := Q4.out
        have hg5 := Q5.out
        clear Q1 Q2 Q3 Q4 Q5 GQ HF HP HV
        obtain ⟨h, hh⟩ : ∃ h, n / 2 = h := ⟨_, rfl⟩
        have hnh : n = 2 * h := by omega
        have HNH := Lib.hid hnh
        have h2n : 2 * (h : Int) = (n : Int) := by omega
        have hh1 : 1 ≤ h ∧ h ≤ 4 := by omega
        clear hnh
        have hcase : (p = 0 ∧ g = 0) ∨ (0 < p ∧ (p == 0) = false) := by
          by_cases e : p = 0
          · exact .inl ⟨e, hg5 e⟩
          · exact .inr ⟨by omega, by rw [beq_eq_false_iff_ne]; exact e⟩
        have DF := Lib.hid (dbl_facts OK.out HN.out hh)
        have F1 := Lib.hid fun wx ho => implFold_t (.slice (some ⟨wb, wo, none⟩) n wc) zs h n wx (base := w.heap.size) ho hh OK.out HN.out.symm
        have F2 := Lib.hid fun wx hx => specFold_t (.slice (some ⟨wb, wo, none⟩) n wc) zs h n wx hx hh OK.out HN.out.symm
        have X1 := Lib.hid fun wx ho => implCross_t (.slice (some ⟨wb, wo, none⟩) n wc) zs h n wx (base := w.heap.size) ho hh OK.out HN.out.symm
        have X2 := Lib.hid fun wx hx => specCross_t (.slice (some ⟨wb, wo, none⟩) n wc) zs h n wx hx hh OK.out HN.out.symm
        have L1 := Lib.hid fun a c wx hx => implDraw_t (.slice a h c) zs n h wx hx OK.out HN.out.symm hh
        have L2 := Lib.hid fun wx hx => implOnce_t (.slice (some ⟨wb, wo, none⟩) n wc) zs n wx hx OK.out HN.out.symm
        have L3 := Lib.hid fun wx hx => specOnce_t (.slice (some ⟨wb, wo, none⟩) n wc) zs n wx hx OK.out HN.out.symm
        have FL : Hid ((dblTo zs true h).length = h) := dblTo_length _ _ _
        have XL : Hid ((dblTo zs false h).length = h) := dblTo_length _ _ _
        have LL : Hid ((laid true zs).length = n) := (laid_length OK.out).trans HN.out.symm
        obtain ⟨F, hF⟩ : ∃ F, F = dblTo zs true h := ⟨_, rfl⟩
        obtain ⟨X, hX⟩ : ∃ X, X = dblTo zs false h := ⟨_, rfl⟩
        obtain ⟨L, hL⟩ : ∃ L, L = laid true zs := ⟨_, rfl⟩
        rw [← hF] at F1 F2 L1 FL DF
        rw [← hX] at X1 X2 XL DF
        rw [← hL] at L1 L2 L3 LL DF
        clear hF hX hL
        have HUN : Hid ((S = 0 ∧ unF zs = (0, 0, 6)) ∨ (0 < S ∧ ∃ a b : Int, unF zs = (a, b, 0) ∧ 1 ≤ b ∧ ((a = 0 ∧ D = 0) ∨ (0 < a ∧ 0 < D)))) := by
          by_cases e : S = 0
          · exact .inl ⟨e, un_none OK.out (by rw [← HS.out]; exact e)⟩
          · obtain ⟨a, b, e1, e2, e3, e4⟩ := un_some OK.out (by rw [← HS.out]; omega)
            rw [← HD.out] at e4
            exact .inr ⟨by omega, a, b, e1, e3, by omega⟩
        have hSb : 0 ≤ S ∧ S ≤ 80000 := by omega
        clear hg5 hev
        rcases hcase with ⟨hp0', hg0'⟩ | ⟨hp1', hp2'⟩
        · as_aux_lemma =>
          subst hp0'
          subst hg0'
          go_wp2_with fail
          refine (F1.out _ O.out).mono ?_
          rintro e y1 ⟨fa, fc, rfl, own, hB⟩
          replace A := Lib.hid (A.out.push hB own.ints)
          replace O := Lib.hid (O.out.below hB)
          replace T := Lib.hid (T.out.trans (hB.mono T.out.size))
          clear hB own
          go_wp2_with fail
          refine (F2.out _ O.out.ints).mono ?_
          rintro e y2 ⟨ha, hc, rfl, own, hB⟩
          replace A := Lib.hid (A.out.push hB own.ints)
          replace O := Lib.hid (O.out.below hB)
          replace T := Lib.hid (T.out.trans (hB.mono T.out.size))
          clear hB own
          go_wp2_with fail
          refine (X1.out _ O.out).mono ?_
          rintro e y3 ⟨ca, cc, rfl, own, hB⟩
          replace A := Lib.hid (A.out.push hB own.ints)
          replace O := Lib.hid (O.out.below hB)
          replace T := Lib.hid (T.out.trans (hB.mono T.out.size))
          clear hB own
          go_wp2_with fail
          refine (X2.out _ O.out.ints).mono ?_
          rintro e y4 ⟨oa, oc, rfl, own, hB⟩
          replace A := Lib.hid (A.out.push hB own.ints)
          replace O := Lib.hid (O.out.below hB)
          replace T := Lib.hid (T.out.trans (hB.mono T.out.size))
          clear hB own
          clear F1 F2 X1 X2
          go_wp2_with fail
          refine (a2Same_any _ _ F _ (A.out.get 3 rfl) (A.out.get 2 rfl) (by have := FL.out; omega)).mono ?_
          rintro e y5 ⟨rfl, hB⟩
          replace A := Lib.hid (A.out.below hB)
          replace O := Lib.hid (O.out.below hB)
          replace T := Lib.hid (T.out.trans (hB.mono T.out.size))
          clear hB
          go_wp2_with fail
          refine (a2Same_any _ _ X _ (A.out.get 1 rfl) (A.out.get 0 rfl) (by have := XL.out; omega)).mono ?_
          rintro e y6 ⟨rfl, hB⟩
          replace A := Lib.hid (A.out.below hB)
          replace O := Lib.hid (O.out.below hB)
          replace T := Lib.hid (T.out.trans (hB.mono T.out.size))
          clear hB
          go_wp2_with fail
          refine (L1.out ha hc _ (A.out.get 2 rfl)).mono ?_
          rintro e y7 ⟨ua, uc, rfl, own, hB⟩
          replace A := Lib.hid (A.out.push hB own.ints)
          replace O := Lib.hid (O.out.below hB)
          replace T := Lib.hid (T.out.trans (hB.mono T.out.size))
          clear hB own
          go_wp2_with fail
          refine (L2.out _ O.out.ints).mono ?_
          rintro e y8 ⟨ea, ec, rfl, own, hB⟩
          replace A := Lib.hid (A.out.push hB own.ints)
          replace O := Lib.hid (O.out.below hB)
          replace T := Lib.hid (T.out.trans (hB.mono T.out.size))
          clear hB own
          go_wp2_with fail
          refine (L3.out _ O.out.ints).mono ?_
          rintro e y9 ⟨na, nc, rfl, own, hB⟩
          replace A := Lib.hid (A.out.push hB own.ints)
          replace O := Lib.hid (O.out.below hB)
          replace T := Lib.hid (T.out.trans (hB.mono T.out.size))
          clear hB own
          clear L1 L2 L3
          go_wp2_with fail
          refine (a2Same_any _ _ L _ (A.out.get 1 rfl) (A.out.get 0 rfl) (by have := LL.out; omega)).mono ?_
          rintro e y10 ⟨rfl, hB⟩
          replace A := Lib.hid (A.out.below hB)
          replace O := Lib.hid (O.out.below hB)
          replace T := Lib.hid (T.out.trans (hB.mono T.out.size))
          clear hB
          go_wp2_with fail
          refine (a2Same_any _ _ L _ (A.out.get 2 rfl) (A.out.get 0 rfl) (by have := LL.out; omega)).mono ?_
          rintro e y11 ⟨rfl, hB⟩
          replace A := Lib.hid (A.out.below hB)
          replace O := Lib.hid (O.out.below hB)
          replace T := Lib.hid (T.out.trans (hB.mono T.out.size))
          clear hB
          obtain ⟨nb, no, rfl⟩ := (A.out.get 0 rfl).addr (by rw [LL.out]; omega)
          obtain ⟨ob, oo, rfl⟩ := (A.out.get 3 rfl).addr (by rw [XL.out]; omega)
          obtain ⟨hb, ho, rfl⟩ := (A.out.get 5 rfl).addr (by rw [FL.out]; omega)
          replace A : Hid (All y11 [(.slice (some ⟨nb, no, none⟩) n nc, L), (.slice (some ⟨ob, oo, none⟩) h oc, X), (.slice (some ⟨hb, ho, none⟩) h hc, F), (.slice (some ⟨wb, wo, none⟩) n wc, zs)]) := four (A.out.get 0 rfl) (A.out.get 3 rfl) (A.out.get 5 rfl) (A.out.get 8 rfl)
          clear O
          go_wp2_with fail
          go_loopw [52] (fun i wr => ∃ k : Nat, k ≤ h ∧ i = .int .i64 k ∧ Hid (All wr [(.slice (some ⟨nb, no, none⟩) n nc, L), (.slice (some ⟨ob, oo, none⟩) h oc, X), (.slice (some ⟨hb, ho, none⟩) h hc, F), (.slice (some ⟨wb, wo, none⟩) n wc, zs)]) ∧ Hid (Below w.heap.size w wr)) (fun i _ => h - (intOf i).toNat)
          case atStart => exact ⟨0, Nat.zero_le _, rfl, A, T⟩
          case round =>
            clear A T
            obtain ⟨k, hk, rfl, A, T⟩ := hrel
            by_cases hlt : k < h
            · as_aux_lemma =>
              have hki : (k : Int) < (h : Int) := by omega
              obtain ⟨f1, f2, q0, q1, f3, f4, f5, f6, f7, f8, f9⟩ := DF.out k hlt
              have hnh := HNH.out
              have hnz := HN.out
              have c0 := (A.out.get 3 rfl).at k (by omega)
              have c1 := (A.out.get 3 rfl).at (n - 1 - k) (by omega)
              have c2 := (A.out.get 3 rfl).at (k + h) (by omega)
              have c3 := (A.out.get 2 rfl).at k (by rw [FL.out]; exact hlt)
              have c4 := (A.out.get 1 rfl).at k (by rw [XL.out]; exact hlt)
              have c5 := (A.out.get 0 rfl).at (2 * k) (by rw [LL.out]; omega)
              have c6 := (A.out.get 0 rfl).at (2 * k + 1) (by rw [LL.out]; omega)
              rw [f1] at c3
              rw [f2] at c4
              rw [f3] at c5
              rw [f4] at c6
              have b0 := GZ.out k (by omega)
              have b1 := GZ.out (n - 1 - k) (by omega)
              have b2 := GZ.out (k + h) (by omega)
              obtain ⟨j1, hj1⟩ : ∃ j, n - 1 - k = j := ⟨_, rfl⟩
              obtain ⟨j2, hj2⟩ : ∃ j, k + h = j := ⟨_, rfl⟩
              obtain ⟨j3, hj3⟩ : ∃ j, 2 * k = j := ⟨_, rfl⟩
              obtain ⟨j4, hj4⟩ : ∃ j, j3 + 1 = j := ⟨_, rfl⟩
              rw [hj3] at c5 c6
              rw [hj4] at c6
              rw [hj1] at c1 c3 f5 b1
              rw [hj2] at c2 c4 b2
              obtain ⟨z0, hz0⟩ : ∃ z, z = zs.getD k 0 := ⟨_, rfl⟩
              obtain ⟨z1, hz1⟩ : ∃ z, z = zs.getD j1 0 := ⟨_, rfl⟩
              obtain ⟨z2, hz2⟩ : ∃ z, z = zs.getD j2 0 := ⟨_, rfl⟩
              rw [← hz0] at c0 c3 c4 f5 b0
              rw [← hz1] at c1 c3 f5 b1
              rw [← hz2] at c2 c4 b2
              have hk2 : (k : Int) < (n : Int) := by omega
              refine code_as (c' := body2) (by as_aux_lemma => kernel_rfl) ?_
              refine body2_ok _ _ n h k wb wo wc hb ho hc ob oo oc nb no nc j1 j2 j3 j4 z0 z1 z2 q0 q1 _ _ _ _ _ _ _ _ _ _ _ _ _ _ _ _ _ _ _ _ _ _ _ _ _ _ _ _ _ _ _ _ _ _ _ _ _ _ _ _ _ _ _ _ _ _ _ _ _ _ _ _ _ _ _ _ _ _ _ _ _ _ _ _ _ _ _ _ _ _ _ _ _ _ _ _ _ _ _ _ _ _ _ _ _ _ _ _ _ _ _ _ _ _ _ _ _ _ _ _ _ _ _ _ _ _ _ _ _ _ _ _ _ _ _ _ _ _ _ _ _ _ _ _ _ _ _ _ _ _ _ _ _ _ _ _ _ _ _ _ _ _ _ _ _ _ _ _ _ _ _ _ _ _ _ _ _ _ _ _ _ _ _ _ _ _ _ _ _ _ _ _ _ _ _ _ _ _ _ _ _ _ _ _ _ _ _ _ _ _ _ _ _ _ _ _ _ _ _ _ _ _ _ _ _ _ _ _ _ _ _ _ _ _ _ _ _ _ _ _ _ _ _ _ _ _ _ _ _ _ _ _ _ _ _ _ _ _ _ _ _ _ _ _ _ _ _ _ _ _ _ _ _ _ _ _ _ _ _ _ _ _ _ _ _ _ _ _ _ _ _ _ _ _ _ _ _ _ _ _ _ _ _ _ _ _ _ _ _ _ _ _ _ _ _ _ _ _ _ _ _ _ _ _ _ _ _ _ _ _ _ _ _ _ _ _ _ _ _ _ _ _ _ _ _ _ _ _ _ _ _ _ _ _ _ _ _ _ _ _ _ _ _ _ _ _ _ _ _ _ _ _ _ _ _ _ _ _ _ _ _ _ _ _ _ _ _ _ _ _ _ _ _ _ _ _ _ _ _ _ _ _ _ _ _ _ _ _ _ _ _ _ _ _ _ _ _ _ _ _ _ _ _ _ _ _ _ _ _ _ _ _ _ _ _ _ _ _ _ _ _ _ _ _ _ _ _ _ _ _ _ _ _ _ _ _ _ _ _ _ _ _ _ _ _ _ _ _ _ _ _ _ _ _ _ _ _ _ _ _ _ _ _ _ _ _ _ _ _ _ _ _ _ _ _ _ _ _ _ _ _ _ _ _ _ _ _ _ _ _ _ _ _ _ _ _ _ _ _ _ _ _ _ _ _ _ _ _ _ _ _ _ _ _ _ _ _ _ _ _ _ _ _ _ _ _ _ _ _ _ _ _ _ _ _ _ _ _ _ _ _ _ _ hki hk2 h2n (by omega) hj1 hj2 hj3 hj4 c0 c1 c2 c3 c4 c5 c6 b0 b1 b2 f5 f6 f7 f8 f9 ?_
              intro x412 x413 x414 x415 x416 x417 x418 x419 x420 x421 x422 x423 x424 x425 x426 x427 x428 x429 x430 x431 x432 x433 x434 x435 x436 x437 x438 x439 x440 x441 x442 x443 x444 x445 x446 x447 x448 x449 x450 x451 x452 x453 x454 x455 x456 x457 x458 x459 x460 x461 x462 x463 x464 x465 x466 x467 x468 x469 x470 x471 x472 x473 x474 x475 x476 x477 x478 x479 x480 x481 x482 x483 x484 x485 x486 x487 x488 x489 x490 x491 x492 x493 x494 x495 x496 x497 x498 x499 x500 x501 x502 nq
              go_wp2_with fail
              go_roundw
              case rel => exact ⟨k + 1, by omega, by go_num, A.out.same _, T.out.trans ((bdN _ _).mono T.out.size)⟩
              case measure => simp [intOf]; omega
            · as_aux_lemma =>
              have hkn : h = k := by omega
              subst hkn
              rcases HUN.out with ⟨hs0, hU⟩ | ⟨hs1, a, b', hU, hb', hc⟩
              · subst hs0
                have U1 := Lib.hid fun wx hx => implUn_t (.slice (some ⟨wb, wo, none⟩) n wc) zs 0 0 6 wx hx OK.out hU
                have U2 := Lib.hid fun wx hx => specUn_t (.slice (some ⟨wb, wo, none⟩) n wc) zs 0 0 6 wx hx OK.out hU
                clear hU HUN
                go_wp2_with fail
                refine (U1.out _ (A.out.get 3 rfl)).mono ?_
                rintro e x1 ⟨rfl, hB⟩
                replace A := Lib.hid (A.out.below hB)
                replace T := Lib.hid (T.out.trans (hB.mono T.out.size))
                clear hB U1
                go_wp2_with fail
                refine (U2.out _ ((A.out.get 3 rfl).below ((Below.refl _ _).alloc (Nat.le_refl _) _))).mono ?_
                rintro e x2 ⟨rfl, hB⟩
                obtain ⟨hc', hf'⟩ := cellsKept hB x1.heap.size (by simp)
                have hz := T.out.size
                have hlt12 : x1.heap.size < x2.heap.size := by have := hB.size; simp at this; omega
                have f0 : ∀ o : Obj, (x2.alloc o).cell? ⟨x1.heap.size, 0, none⟩ = some (.int .i64 0) := fun o => kept ((Below.refl _ _).alloc (Nat.le_refl _) o) hlt12 ((hc' 0).trans (by simp [go_sem]))
                have f1 : ∀ o : Obj, (x2.alloc o).cell? ⟨x1.heap.size, 1, none⟩ = some (.int .i64 0) := fun o => kept ((Below.refl _ _).alloc (Nat.le_refl _) o) hlt12 ((hc' 1).trans (by simp [go_sem]))
                replace T := Lib.hid (T.out.trans ((((Below.refl x1.heap.size x1).alloc (Nat.le_refl _) _).trans (hB.mono (by simp))).mono T.out.size))
                have hz2 := T.out.size
                have T3 : ∀ o : Obj, Below w.heap.size w (x2.alloc o) := fun o => T.out.alloc hz2 o
                have HT3 := Lib.hid T3
                clear hB hc' hf' U2 A T3
                go_wp2_with fail
                first
                  | (go_ret; exact ⟨rfl, HT3.out _⟩)
                  | (go_quiet (fail); go_wp2_with fail; go_ret; exact ⟨rfl, (HT3.out _).trans ((bdN _ _).mono (HT3.out _).size)⟩)
              · have U1 := Lib.hid fun wx hx => implUn_t (.slice (some ⟨wb, wo, none⟩) n wc) zs a b' 0 wx hx OK.out hU
                have U2 := Lib.hid fun wx hx => specUn_t (.slice (some ⟨wb, wo, none⟩) n wc) zs a b' 0 wx hx OK.out hU
                clear hU HUN HD
                rcases hc with ⟨e1, e2⟩ | ⟨e1, e2⟩
                · subst e1
                  subst e2
                  go_wp2_with fail
                  refine (U1.out _ (A.out.get 3 rfl)).mono ?_
                  rintro e x1 ⟨rfl, hB⟩
                  replace A := Lib.hid (A.out.below hB)
                  replace T := Lib.hid (T.out.trans (hB.mono T.out.size))
                  clear hB U1
                  go_wp2_with fail
                  refine (U2.out _ ((A.out.get 3 rfl).below ((Below.refl _ _).alloc (Nat.le_refl _) _))).mono ?_
                  rintro e x2 ⟨rfl, hB⟩
                  obtain ⟨hc', hf'⟩ := cellsKept hB x1.heap.size (by simp)
                  have hz := T.out.size
                  have hlt12 : x1.heap.size < x2.heap.size := by have := hB.size; simp at this; omega
                  have f0 : ∀ o : Obj, (x2.alloc o).cell? ⟨x1.heap.size, 0, none⟩ = some (.int .i64 0) := fun o => kept ((Below.refl _ _).alloc (Nat.le_refl _) o) hlt12 ((hc' 0).trans (by simp [go_sem]))
                  have f1 : ∀ o : Obj, (x2.alloc o).cell? ⟨x1.heap.size, 1, none⟩ = some (.int .i64 b') := fun o => kept ((Below.refl _ _).alloc (Nat.le_refl _) o) hlt12 ((hc' 1).trans (by simp [go_sem]))
                  replace T := Lib.hid (T.out.trans ((((Below.refl x1.heap.size x1).alloc (Nat.le_refl _) _).trans (hB.mono (by simp))).mono T.out.size))
                  have hz2 := T.out.size
                  have T3 : ∀ o : Obj, Below w.heap.size w (x2.alloc o) := fun o => T.out.alloc hz2 o
                  have HT3 := Lib.hid T3
                  clear hB hc' hf' U2 A T3
                  go_wp2_with fail
                  first
                    | (go_ret; exact ⟨rfl, HT3.out _⟩)
                    | (go_quiet (fail); go_wp2_with fail; go_ret; exact ⟨rfl, (HT3.out _).trans ((bdN _ _).mono (HT3.out _).size)⟩)
                · have e3 : (a == 0) = false := by rw [beq_eq_false_iff_ne]; omega
                  have e4 : (D == 0) = false := by rw [beq_eq_false_iff_ne]; omega
                  go_wp2_with fail
                  refine (U1.out _ (A.out.get 3 rfl)).mono ?_
                  rintro e x1 ⟨rfl, hB⟩
                  replace A := Lib.hid (A.out.below hB)
                  replace T := Lib.hid (T.out.trans (hB.mono T.out.size))
                  clear hB U1
                  go_wp2_with fail
                  refine (U2.out _ ((A.out.get 3 rfl).below ((Below.refl _ _).alloc (Nat.le_refl _) _))).mono ?_
                  rintro e x2 ⟨rfl, hB⟩
                  obtain ⟨hc', hf'⟩ := cellsKept hB x1.heap.size (by simp)
                  have hz := T.out.size
                  have hlt12 : x1.heap.size < x2.heap.size := by have := hB.size; simp at this; omega
                  have f0 : ∀ o : Obj, (x2.alloc o).cell? ⟨x1.heap.size, 0, none⟩ = some (.int .i64 a) := fun o => kept ((Below.refl _ _).alloc (Nat.le_refl _) o) hlt12 ((hc' 0).trans (by simp [go_sem]))
                  have f1 : ∀ o : Obj, (x2.alloc o).cell? ⟨x1.heap.size, 1, none⟩ = some (.int .i64 b') := fun o => kept ((Below.refl _ _).alloc (Nat.le_refl _) o) hlt12 ((hc' 1).trans (by simp [go_sem]))
                  replace T := Lib.hid (T.out.trans ((((Below.refl x1.heap.size x1).alloc (Nat.le_refl _) _).trans (hB.mono (by simp))).mono T.out.size))
                  have hz2 := T.out.size
                  have T3 : ∀ o : Obj, Below w.heap.size w (x2.alloc o) := fun o => T.out.alloc hz2 o
                  have HT3 := Lib.hid T3
                  clear hB hc' hf' U2 A T3
                  go_wp2_with fail
                  first
                    | (go_ret; exact ⟨rfl, HT3.out _⟩)
                    | (go_quiet (fail); go_wp2_with fail; go_ret; exact ⟨rfl, (HT3.out _).trans ((bdN _ _).mono (HT3.out _).size)⟩)
        · as_aux_lemma =>
          go_wp2_with fail
          refine (F1.out _ O.out).mono ?_
          rintro e y1 ⟨fa, fc, rfl, own, hB⟩
          replace A := Lib.hid (A.out.push hB own.ints)
          replace O := Lib.hid (O.out.below hB)
          replace T := Lib.hid (T.out.trans (hB.mono T.out.size))
          clear hB own
          go_wp2_with fail
          refine (F2.out _ O.out.ints).mono ?_
          rintro e y2 ⟨ha, hc, rfl, own, hB⟩
          replace A := Lib.hid (A.out.push hB own.ints)
          replace O := Lib.hid (O.out.below hB)
          replace T := Lib.hid (T.out.trans (hB.mono T.out.size))
          clear hB own
          go_wp2_with fail
          refine (X1.out _ O.out).mono ?_
          rintro e y3 ⟨ca, cc, rfl, own, hB⟩
          replace A := Lib.hid (A.out.push hB own.ints)
          replace O := Lib.hid (O.out.below hB)
          replace T := Lib.hid (T.out.trans (hB.mono T.out.size))
          clear hB own
          go_wp2_with fail
          refine (X2.out _ O.out.ints).mono ?_
          rintro e y4 ⟨oa, oc, rfl, own, hB⟩
          replace A := Lib.hid (A.out.push hB own.ints)
          replace O := Lib.hid (O.out.below hB)
          replace T := Lib.hid (T.out.trans (hB.mono T.out.size))
          clear hB own
          clear F1 F2 X1 X2
          go_wp2_with fail
          refine (a2Same_any _ _ F _ (A.out.get 3 rfl) (A.out.get 2 rfl) (by have := FL.out; omega)).mono ?_
          rintro e y5 ⟨rfl, hB⟩
          replace A := Lib.hid (A.out.below hB)
          replace O := Lib.hid (O.out.below hB)
          replace T := Lib.hid (T.out.trans (hB.mono T.out.size))
          clear hB
          go_wp2_with fail
          refine (a2Same_any _ _ X _ (A.out.get 1 rfl) (A.out.get 0 rfl) (by have := XL.out; omega)).mono ?_
          rintro e y6 ⟨rfl, hB⟩
          replace A := Lib.hid (A.out.below hB)
          replace O := Lib.hid (O.out.below hB)
          replace T := Lib.hid (T.out.trans (hB.mono T.out.size))
          clear hB
          go_wp2_with fail
          refine (L1.out ha hc _ (A.out.get 2 rfl)).mono ?_
          rintro e y7 ⟨ua, uc, rfl, own, hB⟩
          replace A := Lib.hid (A.out.push hB own.ints)
          replace O := Lib.hid (O.out.below hB)
          replace T := Lib.hid (T.out.trans (hB.mono T.out.size))
          clear hB own
          go_wp2_with fail
          refine (L2.out _ O.out.ints).mono ?_
          rintro e y8 ⟨ea, ec, rfl, own, hB⟩
          replace A := Lib.hid (A.out.push hB own.ints)
          replace O := Lib.hid (O.out.below hB)
          replace T := Lib.hid (T.out.trans (hB.mono T.out.size))
          clear hB own
          go_wp2_with fail
          refine (L3.out _ O.out.ints).mono ?_
          rintro e y9 ⟨na, nc, rfl, own, hB⟩
          replace A := Lib.hid (A.out.push hB own.ints)
          replace O := Lib.hid (O.out.below hB)
          replace T := Lib.hid (T.out.trans (hB.mono T.out.size))
          clear hB own
          clear L1 L2 L3
          go_wp2_with fail
          refine (a2Same_any _ _ L _ (A.out.get 1 rfl) (A.out.get 0 rfl) (by have := LL.out; omega)).mono ?_
          rintro e y10 ⟨rfl, hB⟩
          replace A := Lib.hid (A.out.below hB)
          replace O := Lib.hid (O.out.below hB)
          replace T := Lib.hid (T.out.trans (hB.mono T.out.size))
          clear hB
          go_wp2_with fail
          refine (a2Same_any _ _ L _ (A.out.get 2 rfl) (A.out.get 0 rfl) (by have := LL.out; omega)).mono ?_
          rintro e y11 ⟨rfl, hB⟩
          replace A := Lib.hid (A.out.below hB)
          replace O := Lib.hid (O.out.below hB)
          replace T := Lib.hid (T.out.trans (hB.mono T.out.size))
          clear hB
          obtain ⟨nb, no, rfl⟩ := (A.out.get 0 rfl).addr (by rw [LL.out]; omega)
          obtain ⟨ob, oo, rfl⟩ := (A.out.get 3 rfl).addr (by rw [XL.out]; omega)
          obtain ⟨hb, ho, rfl⟩ := (A.out.get 5 rfl).addr (by rw [FL.out]; omega)
          replace A : Hid (All y11 [(.slice (some ⟨nb, no, none⟩) n nc, L), (.slice (some ⟨ob, oo, none⟩) h oc, X), (.slice (some ⟨hb, ho, none⟩) h hc, F), (.slice (some ⟨wb, wo, none⟩) n wc, zs)]) := four (A.out.get 0 rfl) (A.out.get 3 rfl) (A.out.get 5 rfl) (A.out.get 8 rfl)
          clear O
          go_wp2_with fail
          go_loopw [52] (fun i wr => ∃ k : Nat, k ≤ h ∧ i = .int .i64 k ∧ Hid (All wr [(.slice (some ⟨nb, no, none⟩) n nc, L), (.slice (some ⟨ob, oo, none⟩) h oc, X), (.slice (some ⟨hb, ho, none⟩) h hc, F), (.slice (some ⟨wb, wo, none⟩) n wc, zs)]) ∧ Hid (Below w.heap.size w wr)) (fun i _ => h - (intOf i).toNat)
          case atStart => exact ⟨0, Nat.zero_le _, rfl, A, T⟩
          case round =>
            clear A T
            obtain ⟨k, hk, rfl, A, T⟩ := hrel
            by_cases hlt : k < h
            · as_aux_lemma =>
              have hki : (k : Int) < (h : Int) := by omega
              obtain ⟨f1, f2, q0, q1, f3, f4, f5, f6, f7, f8, f9⟩ := DF.out k hlt
              have hnh := HNH.out
              have hnz := HN.out
              have c0 := (A.out.get 3 rfl).at k (by omega)
              have c1 := (A.out.get 3 rfl).at (n - 1 - k) (by omega)
              have c2 := (A.out.get 3 rfl).at (k + h) (by omega)
              have c3 := (A.out.get 2 rfl).at k (by rw [FL.out]; exact hlt)
              have c4 := (A.out.get 1 rfl).at k (by rw [XL.out]; exact hlt)
              have c5 := (A.out.get 0 rfl).at (2 * k) (by rw [LL.out]; omega)
              have c6 := (A.out.get 0 rfl).at (2 * k + 1) (by rw [LL.out]; omega)
              rw [f1] at c3
              rw [f2] at c4
              rw [f3] at c5
              rw [f4] at c6
              have b0 := GZ.out k (by omega)
              have b1 := GZ.out (n - 1 - k) (by omega)
              have b2 := GZ.out (k + h) (by omega)
              obtain ⟨j1, hj1⟩ : ∃ j, n - 1 - k = j := ⟨_, rfl⟩
              obtain ⟨j2, hj2⟩ : ∃ j, k + h = j := ⟨_, rfl⟩
              obtain ⟨j3, hj3⟩ : ∃ j, 2 * k = j := ⟨_, rfl⟩
              obtain ⟨j4, hj4⟩ : ∃ j, j3 + 1 = j := ⟨_, rfl⟩
              rw [hj3] at c5 c6
              rw [hj4] at c6
              rw [hj1] at c1 c3 f5 b1
              rw [hj2] at c2 c4 b2
              obtain ⟨z0, hz0⟩ : ∃ z, z = zs.getD k 0 := ⟨_, rfl⟩
              obtain ⟨z1, hz1⟩ : ∃ z, z = zs.getD j1 0 := ⟨_, rfl⟩
              obtain ⟨z2, hz2⟩ : ∃ z, z = zs.getD j2 0 := ⟨_, rfl⟩
              rw [← hz0] at c0 c3 c4 f5 b0
              rw [← hz1] at c1 c3 f5 b1
              rw [← hz2] at c2 c4 b2
              have hk2 : (k : Int) < (n : Int) := by omega
              refine code_as (c' := body2) (by as_aux_lemma => kernel_rfl) ?_
              refine body2_ok _ _ n h k wb wo wc hb ho hc ob oo oc nb no nc j1 j2 j3 j4 z0 z1 z2 q0 q1 _ _ _ _ _ _ _ _ _ _ _ _ _ _ _ _ _ _ _ _ _ _ _ _ _ _ _ _ _ _ _ _ _ _ _ _ _ _ _ _ _ _ _ _ _ _ _ _ _ _ _ _ _ _ _ _ _ _ _ _ _ _ _ _ _ _ _ _ _ _ _ _ _ _ _ _ _ _ _ _ _ _ _ _ _ _ _ _ _ _ _ _ _ _ _ _ _ _ _ _ _ _ _ _ _ _ _ _ _ _ _ _ _ _ _ _ _ _ _ _ _ _ _ _ _ _ _ _ _ _ _ _ _ _ _ _ _ _ _ _ _ _ _ _ _ _ _ _ _ _ _ _ _ _ _ _ _ _ _ _ _ _ _ _ _ _ _ _ _ _ _ _ _ _ _ _ _ _ _ _ _ _ _ _ _ _ _ _ _ _ _ _ _ _ _ _ _ _ _ _ _ _ _ _ _ _ _ _ _ _ _ _ _ _ _ _ _ _ _ _ _ _ _ _ _ _ _ _ _ _ _ _ _ _ _ _ _ _ _ _ _ _ _ _ _ _ _ _ _ _ _ _ _ _ _ _ _ _ _ _ _ _ _ _ _ _ _ _ _ _ _ _ _ _ _ _ _ _ _ _ _ _ _ _ _ _ _ _ _ _ _ _ _ _ _ _ _ _ _ _ _ _ _ _ _ _ _ _ _ _ _ _ _ _ _ _ _ _ _ _ _ _ _ _ _ _ _ _ _ _ _ _ _ _ _ _ _ _ _ _ _ _ _ _ _ _ _ _ _ _ _ _ _ _ _ _ _ _ _ _ _ _ _ _ _ _ _ _ _ _ _ _ _ _ _ _ _ _ _ _ _ _ _ _ _ _ _ _ _ _ _ _ _ _ _ _ _ _ _ _ _ _ _ _ _ _ _ _ _ _ _ _ _ _ _ _ _ _ _ _ _ _ _ _ _ _ _ _ _ _ _ _ _ _ _ _ _ _ _ _ _ _ _ _ _ _ _ _ _ _ _ _ _ _ _ _ _ _ _ _ _ _ _ _ _ _ _ _ _ _ _ _ _ _ _ _ _ _ _ _ _ _ _ _ _ _ _ _ _ _ _ _ _ _ _ _ _ _ _ _ _ _ _ _ _ _ _ _ _ _ _ _ _ _ _ _ _ _ _ _ _ _ _ _ _ _ _ _ _ _ _ _ _ _ _ _ _ _ _ _ _ _ _ hki hk2 h2n (by omega) hj1 hj2 hj3 hj4 c0 c1 c2 c3 c4 c5 c6 b0 b1 b2 f5 f6 f7 f8 f9 ?_
              intro x412 x413 x414 x415 x416 x417 x418 x419 x420 x421 x422 x423 x424 x425 x426 x427 x428 x429 x430 x431 x432 x433 x434 x435 x436 x437 x438 x439 x440 x441 x442 x443 x444 x445 x446 x447 x448 x449 x450 x451 x452 x453 x454 x455 x456 x457 x458 x459 x460 x461 x462 x463 x464 x465 x466 x467 x468 x469 x470 x471 x472 x473 x474 x475 x476 x477 x478 x479 x480 x481 x482 x483 x484 x485 x486 x487 x488 x489 x490 x491 x492 x493 x494 x495 x496 x497 x498 x499 x500 x501 x502 nq
              go_wp2_with fail
              go_roundw
              case rel => exact ⟨k + 1, by omega, by go_num, A.out.same _, T.out.trans ((bdN _ _).mono T.out.size)⟩
              case measure => simp [intOf]; omega
            · as_aux_lemma =>
              have hkn : h = k := by omega
              subst hkn
              rcases HUN.out with ⟨hs0, hU⟩ | ⟨hs1, a, b', hU, hb', hc⟩
              · subst hs0
                have U1 := Lib.hid fun wx hx => implUn_t (.slice (some ⟨wb, wo, none⟩) n wc) zs 0 0 6 wx hx OK.out hU
                have U2 := Lib.hid fun wx hx => specUn_t (.slice (some ⟨wb, wo, none⟩) n wc) zs 0 0 6 wx hx OK.out hU
                clear hU HUN
                go_wp2_with fail
                refine (U1.out _ (A.out.get 3 rfl)).mono ?_
                rintro e x1 ⟨rfl, hB⟩
                replace A := Lib.hid (A.out.below hB)
                replace T := Lib.hid (T.out.trans (hB.mono T.out.size))
                clear hB U1
                go_wp2_with fail
                refine (U2.out _ ((A.out.get 3 rfl).below ((Below.refl _ _).alloc (Nat.le_refl _) _))).mono ?_
                rintro e x2 ⟨rfl, hB⟩
                obtain ⟨hc', hf'⟩ := cellsKept hB x1.heap.size (by simp)
                have hz := T.out.size
                have hlt12 : x1.heap.size < x2.heap.size := by have := hB.size; simp at this; omega
                have f0 : ∀ o : Obj, (x2.alloc o).cell? ⟨x1.heap.size, 0, none⟩ = some (.int .i64 0) := fun o => kept ((Below.refl _ _).alloc (Nat.le_refl _) o) hlt12 ((hc' 0).trans (by simp [go_sem]))
                have f1 : ∀ o : Obj, (x2.alloc o).cell? ⟨x1.heap.size, 1, none⟩ = some (.int .i64 0) := fun o => kept ((Below.refl _ _).alloc (Nat.le_refl _) o) hlt12 ((hc' 1).trans (by simp [go_sem]))
                replace T := Lib.hid (T.out.trans ((((Below.refl x1.heap.size x1).alloc (Nat.le_refl _) _).trans (hB.mono (by simp))).mono T.out.size))
                have hz2 := T.out.size
                have T3 : ∀ o : Obj, Below w.heap.size w (x2.alloc o) := fun o => T.out.alloc hz2 o
                have HT3 := Lib.hid T3
                clear hB hc' hf' U2 A T3
                go_wp2_with fail
                first
                  | (go_ret; exact ⟨rfl, HT3.out _⟩)
                  | (go_quiet (fail); go_wp2_with fail; go_ret; exact ⟨rfl, (HT3.out _).trans ((bdN _ _).mono (HT3.out _).size)⟩)
              · have U1 := Lib.hid fun wx hx => implUn_t (.slice (some ⟨wb, wo, none⟩) n wc) zs a b' 0 wx hx OK.out hU
                have U2 := Lib.hid fun wx hx => specUn_t (.slice (some ⟨wb, wo, none⟩) n wc) zs a b' 0 wx hx OK.out hU
                clear hU HUN HD
                rcases hc with ⟨e1, e2⟩ | ⟨e1, e2⟩
                · subst e1
                  subst e2
                  go_wp2_with fail
                  refine (U1.out _ (A.out.get 3 rfl)).mono ?_
                  rintro e x1 ⟨rfl, hB⟩
                  replace A := Lib.hid (A.out.below hB)
                  replace T := Lib.hid (T.out.trans (hB.mono T.out.size))
                  clear hB U1
                  go_wp2_with fail
                  refine (U2.out _ ((A.out.get 3 rfl).below ((Below.refl _ _).alloc (Nat.le_refl _) _))).mono ?_
                  rintro e x2 ⟨rfl, hB⟩
                  obtain ⟨hc', hf'⟩ := cellsKept hB x1.heap.size (by simp)
                  have hz := T.out.size
                  have hlt12 : x1.heap.size < x2.heap.size := by have := hB.size; simp at this; omega
                  have f0 : ∀ o : Obj, (x2.alloc o).cell? ⟨x1.heap.size, 0, none⟩ = some (.int .i64 0) := fun o => kept ((Below.refl _ _).alloc (Nat.le_refl _) o) hlt12 ((hc' 0).trans (by simp [go_sem]))
                  have f1 : ∀ o : Obj, (x2.alloc o).cell? ⟨x1.heap.size, 1, none⟩ = some (.int .i64 b') := fun o => kept ((Below.refl _ _).alloc (Nat.le_refl _) o) hlt12 ((hc' 1).trans (by simp [go_sem]))
                  replace T := Lib.hid (T.out.trans ((((Below.refl x1.heap.size x1).alloc (Nat.le_refl _) _).trans (hB.mono (by simp))).mono T.out.size))
                  have hz2 := T.out.size
                  have T3 : ∀ o : Obj, Below w.heap.size w (x2.alloc o) := fun o => T.out.alloc hz2 o
                  have HT3 := Lib.hid T3
                  clear hB hc' hf' U2 A T3
                  go_wp2_with fail
                  first
                    | (go_ret; exact ⟨rfl, HT3.out _⟩)
                    | (go_quiet (fail); go_wp2_with fail; go_ret; exact ⟨rfl, (HT3.out _).trans ((bdN _ _).mono (HT3.out _).size)⟩)
                · have e3 : (a == 0) = false := by rw [beq_eq_false_iff_ne]; omega
                  have e4 : (D == 0) = false := by rw [beq_eq_false_iff_ne]; omega
                  go_wp2_with fail
                  refine (U1.out _ (A.out.get 3 rfl)).mono ?_
                  rintro e x1 ⟨rfl, hB⟩
                  replace A := Lib.hid (A.out.below hB)
                  replace T := Lib.hid (T.out.trans (hB.mono T.out.size))
                  clear hB U1
                  go_wp2_with fail
                  refine (U2.out _ ((A.out.get 3 rfl).below ((Below.refl _ _).alloc (Nat.le_refl _) _))).mono ?_
                  rintro e x2 ⟨rfl, hB⟩
                  obtain ⟨hc', hf'⟩ := cellsKept hB x1.heap.size (by simp)
                  have hz := T.out.size
                  have hlt12 : x1.heap.size < x2.heap.size := by have := hB.size; simp at this; omega
                  have f0 : ∀ o : Obj, (x2.alloc o).cell? ⟨x1.heap.size, 0, none⟩ = some (.int .i64 a) := fun o => kept ((Below.refl _ _).alloc (Nat.le_refl _) o) hlt12 ((hc' 0).trans (by simp [go_sem]))
                  have f1 : ∀ o : Obj, (x2.alloc o).cell? ⟨x1.heap.size, 1, none⟩ = some (.int .i64 b') := fun o => kept ((Below.refl _ _).alloc (Nat.le_refl _) o) hlt12 ((hc' 1).trans (by simp [go_sem]))
                  replace T := Lib.hid (T.out.trans ((((Below.refl x1.heap.size x1).alloc (Nat.le_refl _) _).trans (hB.mono (by simp))).mono T.out.size))
                  have hz2 := T.out.size
                  have T3 : ∀ o : Obj, Below w.heap.size w (x2.alloc o) := fun o => T.out.alloc hz2 o
                  have HT3 := Lib.hid T3
                  clear hB hc' hf' U2 A T3
                  go_wp2_with fail
                  first
                    | (go_ret; exact ⟨rfl, HT3.out _⟩)
                    | (go_quiet (fail); go_wp2_with fail; go_ret; exact ⟨rfl, (HT3.out _).trans ((bdN _ _).mono (HT3.out _).size)⟩)
end Go.Proofs.YtpnfombolnaldaaGreatDoor
