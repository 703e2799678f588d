/-
  No statement is proved here: ShareCents as the document's own text tells it; condition: at most 1048576 numbers.
-/
import Derived.Test.YtklgklkfolbjcaaScM
import Derived.Test.YtklgklkfolbjcaaRec
import Derived.Laws.OwnMore
import Derived.Deep.AppendLies
import Derived.Deep.RegionHeld3
namespace Go.Proofs.Ytklgklkfolbjcaa
open Go.ChangeShapes Go.WideShapes Go.ChangeAt Go.RowKit

theorem int_one2 (a : Int) : ∀ u ∈ [Value.int .i64 a], u.oneCell' = true := by intro u hu; simp at hu; subst hu; rfl
theorem below_of_own2 {B : Nat} {w w' : World} {v : Value} {zs : List Int} (h : Own w B v zs) (hg : w.grownBy w' v.ownBlock) (hB : B ≤ w.heap.size) : Below B w w' :=
  (Below.refl B w).grown hg hB (fun k hk => (h.lt k hk).1)
theorem grown_al2 {w w' : World} {o : Obj} {row : Option Nat} (h : (w.alloc o).grownBy w' row) : w.grownBy w' row := grown_tr (World.grownBy_alloc w o row) h
theorem grownBy_setT (W : World) (b a : Nat) (v : Value) : W.grownBy (W.setCell ⟨b, a, none⟩ v) (some b) :=
  ⟨rfl, rfl, rfl, by simp, fun i _ hne => Below.heap_setCell _ _ _ i (fun e => hne (by rw [e]))⟩
set_option maxRecDepth 100000 in
theorem infoBool : (Try.prog.info? 4).map (fun i => (i.zero, i.size, i.bytes)) = some (some (.bool false), 1, 1) := by kernel_rfl
theorem flags_made (n : Nat) : (madeCells (Value.bool false).cells (n * 1)).toList = flags (fun _ => false) n := by
  rw [Nat.mul_one]
  show (madeCells #[Value.bool false] n).toList = _
  rw [toList_madeCells_one]
  simp [flags, List.map_const']
theorem rowN {w : World} {base : Nat} {e : TypeId} {size : Nat} {v : Value} {n : Nat} {xs : List Value} (h : w.ownsRow base e size v n xs) (k : Nat) : (w.drewN k).ownsRow base e size v n xs :=
  h.kept (row := none) ⟨rfl, rfl, rfl, Nat.le_refl _, fun _ _ _ => rfl⟩ (by
    cases hb : v.ownBlock with
    | none => exact .inl rfl
    | some k => exact .inr (by simp))
theorem lst_begin (f : Nat → Int) : lst f 0 = [] := rfl
theorem ret_share {u : Value} {a b : Int} (h : a = b) : Ending.returned (.tuple #[u, .int .i64 a]) = .returned (.tuple #[u, .int .i64 b]) := by rw [h]

set_option maxRecDepth 100000 in
set_option maxHeartbeats 16000000 in
theorem specShare_any (c : Int) (v : Value) (gs : List Int) (w : World) (h : Ints w v gs) (hn : gs.length ≤ 1048576) :
    Calls Try.prog 36 #[.int .i64 c, v] w fun e w' => ∃ r, e = .returned (.tuple #[r, .int .i64 (shareF c gs).2]) ∧ Own w' w.heap.size r (shareF c gs).1 ∧ Below w.heap.size w w' := by
  obtain ⟨i0, hi, hz0, hz1, hz2⟩ := info_parts info64
  have HIC := Lib.hid fun wx => in_any c 0 1000000 wx
  have HIG := Lib.hid fun z wx => in_any z 0 5000 wx
  have OE : Hid (∀ W : World, w.heap.size ≤ W.heap.size → Own (W.alloc (.cells #[] 2)) w.heap.size (.slice (some ⟨W.heap.size, 0, none⟩) 0 0) []) := Lib.hid fun W hW => World.ownsRow_made (base := w.heap.size) (e := 2) (size := 1) W #[] 0 hW (by decide) rfl
  obtain ⟨aa, ca, rfl⟩ := h.len
  have HP := Lib.hid (fun (h0 : 0 < gs.length) => h.pos h0)
  have HNO := Lib.hid (fun h1 => shareF_no (c := c) (gs := gs) h1)
  have HMANY := Lib.hid (fun h1 h2 => shareF_many (c := c) (gs := gs) h1 h2)
  have HZERO := Lib.hid (fun h1 h2 h3 => shareF_zero (c := c) (gs := gs) h1 h2 h3)
  have HYES := Lib.hid (fun h1 h2 h3 => shareF_yes (c := c) (gs := gs) h1 h2 h3)
  have HU1 := Lib.hid (fun k hk => upTo_step gs 5000 k hk)
  have HU2 := Lib.hid (fun k hk => upTo_no gs 5000 k hk)
  have HU3 := Lib.hid (upTo_all gs 5000)
  have HS1 := Lib.hid (fun k hk => sum_step gs k hk)
  have HS3 := Lib.hid (sum_all gs)
  have HPI := Lib.hid (fun (hu : upTo gs 5000 = true) => pre_in hu)
  have HV := Lib.hid (fun h1 h2 h3 k hk => shV_in (c := c) (gs := gs) h1 h2 h3 k hk)
  have HD := Lib.hid (fun h1 h2 h3 k hk => shD_in (c := c) (gs := gs) h1 h2 h3 k hk)
  have HL := Lib.hid (fun h2 h3 => shL_in (c := c) (gs := gs) h2 h3)
  have HLE : Hid (c - (lst (shV c gs) gs.length).sum = shL c gs) := Lib.hid rfl
  have HPR : Hid (∀ k, k ≤ gs.length → upTo (gs.take k) 5000 = true → 0 ≤ (gs.take k).sum ∧ (gs.take k).sum ≤ 5000 * (k : Int)) := Lib.hid fun k hk hu => by
    have := pre_in hu (gs.take k).length (Nat.le_refl _)
    rw [List.take_take, List.length_take, Nat.min_eq_left hk, Nat.min_self] at this
    exact this
  clear h
  obtain ⟨n, hln⟩ : ∃ n, n = gs.length := ⟨_, rfl⟩
  rw [← hln] at HP HMANY HZERO HYES HU1 HU2 HU3 HS1 HS3 HPI HV HD HL HLE HPR hn ⊢
  clear hln
  generalize hF : shareF c gs = F at *
  clear hF
  go_enter Try.func36, Try.ntmps36
  go_wp2_with fail
  refine (HIC.out _).mono ?_
  rintro e w1 ⟨rfl, rfl⟩
  go_wp2_with fail
  go_loop [6, 7, 8] (fun f s i => ∃ (k : Nat) (fb : Bool) (a : Int), k ≤ n ∧ f = .bool fb ∧ s = .int .i64 a ∧ i = .int .i64 k ∧ Hid (fb = true → inB c 0 1000000 = true ∧ upTo (gs.take k) 5000 = true ∧ a = (gs.take k).sum) ∧ Hid (fb = false → (inB c 0 1000000 && upTo gs 5000) = false)) (fun _ _ i => n - (intOf i).toNat)
  case atStart => exact ⟨0, _, 0, Nat.zero_le _, rfl, rfl, rfl, Lib.hid fun h => ⟨h, rfl, rfl⟩, Lib.hid fun h => by rw [h]; rfl⟩
  case round =>
    obtain ⟨k, fb, a, hk, rfl, rfl, rfl, hT, hF⟩ := hrel
    cases fb with
    | false =>
      have HE := Lib.hid (HNO.out (hF.out rfl))
      by_cases hlt : k < n
      · have hki : (k : Int) < (n : Int) := by omega
        go_wp2_with fail
        go_returns
        refine ⟨_, ret_share (by rw [HE.out]), ?_, (Below.refl _ _).alloc (Nat.le_refl _) _⟩
        rw [HE.out]
        exact OE.out w (Nat.le_refl _)
      · have hki : ¬ (k : Int) < (n : Int) := by omega
        go_wp2_with fail
        go_returns
        refine ⟨_, ret_share (by rw [HE.out]), ?_, (Below.refl _ _).alloc (Nat.le_refl _) _⟩
        rw [HE.out]
        exact OE.out w (Nat.le_refl _)
    | true =>
      obtain ⟨t1, t2, t3⟩ := hT.out rfl
      have HT1 := Lib.hid t1
      by_cases hlt : k < n
      · have hki : (k : Int) < (n : Int) := by omega
        obtain ⟨b, off, cap, e, hc⟩ := HP.out (by omega)
        simp only [Value.slice.injEq, true_and] at e
        obtain ⟨rfl, rfl⟩ := e
        have c1 := hc k hlt
        have bd := HPR.out k hk t2
        rw [← t3] at bd
        have N1 : Hid (inB (gs.getD k 0) 0 5000 = true → inB c 0 1000000 = true ∧ upTo (gs.take (k + 1)) 5000 = true ∧ a + gs.getD k 0 = (gs.take (k + 1)).sum) := Lib.hid fun hz => ⟨t1, by rw [HU1.out k hlt, t2, hz]; rfl, by rw [HS1.out k hlt, t3]⟩
        have N2 : Hid (inB (gs.getD k 0) 0 5000 = false → (inB c 0 1000000 && upTo gs 5000) = false) := Lib.hid fun hz => by rw [HU2.out k hlt hz, Bool.and_false]
        clear hc t1 t2 t3 hT hF
        generalize gs.getD k 0 = z at *
        go_wp2_with fail
        refine (HIG.out z _).mono ?_
        rintro e w1 ⟨rfl, rfl⟩
        cases hz : inB z 0 5000 with
        | true =>
          have hz1 := inB_of hz
          rw [hz] at N1 N2
          go_wp2_with fail
          go_round
          case rel => exact ⟨k + 1, true, a + z, by omega, rfl, by go_num, by go_num, Lib.hid fun _ => N1.out trivial, Lib.hid fun h => by cases h⟩
          case measure => simp [intOf]; omega
        | false =>
          rw [hz] at N1 N2
          go_wp2_with fail
          go_round
          case rel => exact ⟨k + 1, false, _, by omega, rfl, rfl, by go_num, Lib.hid fun h => (by cases h), Lib.hid fun _ => N2.out trivial⟩
          case measure => simp [intOf]; omega
      · obtain rfl : k = n := by omega
        have hki : ¬ (k : Int) < (k : Int) := by omega
        have HUU : Hid (upTo gs 5000 = true) := Lib.hid (by rw [← HU3.out]; exact t2)
        have HB : Hid ((inB c 0 1000000 && upTo gs 5000) = true) := Lib.hid (by rw [HUU.out, t1]; rfl)
        have HAS : Hid (a = gs.sum) := Lib.hid (t3.trans HS3.out)
        clear t1 t2 t3 hT hF
        by_cases hl : 60 < k
        · have HE := Lib.hid (HMANY.out HB.out hl)
          have hl2 : (60 : Int) < (k : Int) := by omega
          go_wp2_with fail
          go_returns
          refine ⟨_, ret_share (by rw [HE.out]), ?_, (Below.refl _ _).alloc (Nat.le_refl _) _⟩
          rw [HE.out]
          exact OE.out w (Nat.le_refl _)
        · have hl2 : ¬ (60 : Int) < (k : Int) := by omega
          by_cases h0 : a = 0
          · have HE := Lib.hid (HZERO.out HB.out hl (by rw [← HAS.out]; exact h0))
            subst h0
            go_wp2_with fail
            go_returns
            refine ⟨_, ret_share (by rw [HE.out]), ?_, (Below.refl _ _).alloc (Nat.le_refl _) _⟩
            rw [HE.out]
            exact OE.out w (Nat.le_refl _)
          · have hsn : ¬ gs.sum = 0 := by rw [← HAS.out]; exact h0
            have HE := Lib.hid (HYES.out HB.out hl hsn)
            have HVV := Lib.hid (HV.out HT1.out HUU.out hsn)
            have HDD := Lib.hid (HD.out HT1.out HUU.out hsn)
            have HLL := Lib.hid (HL.out HUU.out hsn)
            have HAB : Hid (gs.sum ≤ 5000 * (k : Int)) := Lib.hid (by
              have := (HPI.out HUU.out k (Nat.le_refl _)).2
              rwa [HS3.out] at this)
            have HCI := Lib.hid (inB_of HT1.out)
            have hA0 : (a == 0) = false := by rw [beq_eq_false_iff_ne]; exact h0
            have OE1 := Lib.hid (OE.out w (Nat.le_refl _))
            rw [← HAS.out] at HVV HAB
            clear HIC HIG HNO HMANY HZERO HYES HU1 HU2 HU3 HS1 HS3 HPI HV HD HL HB HUU HAS hsn OE HPR
            obtain ⟨S, hS⟩ : ∃ S, S = shV c gs := ⟨_, rfl⟩
            obtain ⟨Q, hQ⟩ : ∃ Q, Q = shR c gs := ⟨_, rfl⟩
            obtain ⟨L, hL⟩ : ∃ L, L = shL c gs := ⟨_, rfl⟩
            rw [← hS] at HVV HLE HDD HE
            rw [← hQ] at HVV HE
            rw [← hL] at HLL HLE HE
            clear hS hQ hL
            have HN60 := Lib.hid hl
            have HA0 := Lib.hid h0
            generalize hnk : k = n at *
            clear hnk hk hlt hki h0 hl
            go_wp2_with fail
            have B0 : Hid (Below w.heap.size w (w.alloc (.cells #[] 2))) := Lib.hid ((Below.refl _ _).alloc (Nat.le_refl _) _)
            generalize w.alloc (.cells #[] 2) = w1 at *
            go_loopw [9, 10, 11] (fun u l i wr => ∃ (k : Nat) (x : Value) (z : Int), k ≤ n ∧ i = .int .i64 k ∧ x = u ∧ l = .int .i64 z ∧ Hid (z = c - (lst S k).sum) ∧ Hid (Own wr w.heap.size x (lst S k)) ∧ Hid (Below w.heap.size w wr)) (fun _ _ i _ => n - (intOf i).toNat)
            case atStart => exact ⟨0, _, c, Nat.zero_le _, rfl, rfl, rfl, Lib.hid (by simp [lst]), OE1, B0⟩
            case round =>
              clear OE1 B0
              obtain ⟨k, x, z, hk, rfl, rfl, rfl, hz, hO, hBl⟩ := hrel
              obtain ⟨wa, wc, rfl⟩ : ∃ wa wc, x = .slice wa (k : Nat) wc := by
                obtain ⟨wa, wc, e⟩ := hO.out.ints.len
                rw [lst_length] at e
                exact ⟨wa, wc, e⟩
              by_cases hlt : k < n
              · have hki : (k : Int) < (n : Int) := by omega
                obtain ⟨b, off, cap, e, hc⟩ := HP.out (by omega)
                simp only [Value.slice.injEq, true_and] at e
                obtain ⟨rfl, rfl⟩ := e
                have c0 := hc k hlt
                have hbw : b < w.heap.size := World.block_lt_of_cell? w _ (hc 0 (by omega))
                have c1 := (hBl.out.cell (p := ⟨b, _, none⟩) hbw).trans c0
                obtain ⟨⟨g0, g1⟩, ⟨m0, m1⟩, ⟨s0, s1⟩, ⟨q0, q1⟩, eS, eQ⟩ := HVV.out k hlt
                have hdd := HDD.out k (by omega)
                have hci := HCI.out
                have hab := HAB.out
                have h60 := HN60.out
                have hzz := hz.out
                have u1 : ∀ [Inhabited Nat], IntKind.i64.wrap (c * gs.getD k 0) = c * gs.getD k 0 := by intro _; exact (IntWalk.i64_in _ (by omega)).trans (by omega)
                have u2 : ∀ [Inhabited Nat], wrap64 (c * gs.getD k 0) = c * gs.getD k 0 := by intro _; exact (IntWalk.wrap64_in _ (by omega)).trans (by omega)
                have u3 : ∀ [Inhabited Nat], IntKind.i64.wrap ((c * gs.getD k 0).tdiv a) = S k := by intro _; rw [eS]; exact (IntWalk.i64_in _ (by omega)).trans (by omega)
                have u4 : ∀ [Inhabited Nat], wrap64 ((c * gs.getD k 0).tdiv a) = S k := by intro _; rw [eS]; exact (IntWalk.wrap64_in _ (by omega)).trans (by omega)
                have u7 : c * gs.getD k 0 / a = S k := (Int.tdiv_eq_ediv_of_nonneg m0).symm.trans eS
                have u5 : ∀ [Inhabited Nat], IntKind.i64.wrap (z - S k) = z - S k := by intro _; exact (IntWalk.i64_in _ (by omega)).trans (by omega)
                have u6 : ∀ [Inhabited Nat], wrap64 (z - S k) = z - S k := by intro _; exact (IntWalk.wrap64_in _ (by omega)).trans (by omega)
                have HZ1 : Hid (z - S k = c - (lst S (k + 1)).sum) := Lib.hid (by rw [lst_sum, hzz]; omega)
                have R1 : Hid (wr.ownsRow w.heap.size 2 1 (.slice wa (k : Nat) wc) k ((lst S k).map (Value.int .i64))) := by
                  have h := hO.out.row
                  rw [lst_length] at h
                  exact h
                have HZ : Hid (w.heap.size ≤ wr.heap.size) := Lib.hid hBl.out.size
                have HSK := Lib.hid (lst_succ S k)
                clear hc c0 eS eQ hdd hzz hz
                generalize S k = y at *
                generalize gs.getD k 0 = gk at *
                go_wp2_with (first
                  | (at_builtin; refine wpList_append_lies _ rfl _ _ _ rfl w.heap.size 2 i0 (.int .i64 0) 1 8 Try.underlying36 hi hz0 hz1 hz2 rfl (by omega) (.slice wa (k : Nat) wc) k _ rfl (R1.out.alloc _) ⟨wr.heap.size, 0, none⟩ 1 1 _ rfl rfl (World.news_of_block (heap_alloc_new wr _)) (int_one2 _) (by omega) (by unfold maxLen; omega) (by omega) (by simp; have := HZ.out; omega) (wr.heap.size + 1) (by simp) ?_; intro g cap w4 hown hgrow hat hlt2; have d1 : w4.cell? ⟨g, k, none⟩ = some (.int .i64 y) := (by have := hown.cellAt k (by omega); rw [List.getElem?_append_right (by simp [lst_length])] at this; simpa [lst_length] using this))
                  | fail)
                have O3 : Hid (Own w4 w.heap.size (.slice (some ⟨g, 0, none⟩) (k + 1 : Nat) cap) (lst S (k + 1))) := by
                  show World.ownsRow _ _ _ _ _ _ _
                  rw [lst_length, HSK.out, List.map_append, List.map_singleton]
                  exact hown
                have B3 := Lib.hid (hBl.out.trans (below_of_own2 hO.out (grown_al2 hgrow) HZ.out))
                clear hown hgrow hat hlt2 R1 hO hBl c1
                go_wp2
                go_roundw
                case rel => exact ⟨k + 1, _, z - y, by omega, by go_num, rfl, by go_num, HZ1, O3, B3⟩
                case measure => simp [intOf]; omega
              · obtain rfl : k = n := by omega
                have hki : ¬ (k : Int) < (k : Int) := by omega
                obtain rfl : z = L := hz.out.trans HLE.out
                have hll := HLL.out
                obtain ⟨og, ocap, e, hog, hogs, _⟩ : ∃ g cap, Value.slice wa (k : Nat) wc = .slice (some ⟨g, 0, none⟩) k cap ∧ w.heap.size ≤ g ∧ g < wr.heap.size ∧ True := by
                  rcases hO.out.block with ⟨h1, _⟩ | ⟨g, cap, h1, h2, h3, _⟩
                  · have := congrArg List.length h1
                    rw [lst_length] at this
                    simp at this
                    omega
                  · rw [lst_length] at h1
                    exact ⟨g, cap, h1, h2, h3, trivial⟩
                simp only [Value.slice.injEq, true_and] at e
                obtain ⟨rfl, rfl⟩ := e
                obtain ⟨j0, hj, hb0, hb1, hb2⟩ := info_parts infoBool
                have HOG := Lib.hid (And.intro hog hogs)
                have HSZ := Lib.hid hBl.out.size
                have h60 := HN60.out
                have OS := hO
                have T2 := hBl
                clear hO hBl hz hlt hog hogs hll
                go_wp2_with (first | (at_make; refine wpList_make_full _ rfl _ _ 76 rfl wr.heap.size 4 j0 (.bool false) 1 Try.underlying76 hj hb0 hb1 _ _ _ _ k rfl rfl rfl rfl (by rw [hb2]; omega) (by unfold maxLen; omega) (Nat.le_refl _) ?_; intro w4 hown hgrow) | fail)
                rw [flags_made] at hown
                have G0 := Lib.hid hown
                have T4 := Lib.hid (T2.out.grown hgrow T2.out.size (fun k hk => by cases hk))
                have OS4 : Hid (Own w4 w.heap.size (.slice (some ⟨og, 0, none⟩) k wc) (lst (give S fun _ => false) k)) := Lib.hid (by
                  rw [give_none]
                  exact OS.out.kept hgrow (.inr (by simp [Value.ownBlock])))
                obtain ⟨gb, hgb⟩ : ∃ gb, gb = wr.heap.size := ⟨_, rfl⟩
                rw [← hgb] at G0 HOG HSZ ⊢
                clear hown hgrow OS T2 hgb
                generalize hkn : k = n at *
                clear hkn
                go_wp2_with fail
                go_loopw [10] (fun l wr => ∃ (t : Nat) (G : Nat → Bool), (t : Int) ≤ z ∧ l = .int .i64 (z - t) ∧ Hid (cnt G n = t) ∧ Hid (upw G Q n) ∧ Hid (Own wr w.heap.size (.slice (some ⟨og, 0, none⟩) n wc) (lst (give S G) n)) ∧ Hid (wr.ownsRow gb 4 1 (.slice (some ⟨gb, 0, none⟩) n n) n (flags G n)) ∧ Hid (Below w.heap.size w wr)) (fun l _ => (intOf l).toNat)
                case atStart => exact ⟨0, _, by have := HLL.out; omega, by simp, Lib.hid (by
                  have : ∀ m, cnt (fun _ => false) m = 0 := fun m => by
                    induction m with
                    | zero => rfl
                    | succ m ih => simp [cnt, ih]
                  exact this n), Lib.hid (upw_none Q n), OS4, G0, T4⟩
                case round =>
                  clear OS4 G0 T4
                  obtain ⟨t, G, ht, rfl, hcn, hup, hO, hG, hBl⟩ := hrel
                  by_cases hlt : (t : Int) < z
                  · have hgt : 0 < z - (t : Int) := by omega
                    have HBS := Lib.hid (best_step hup.out (show cnt G n < n by rw [hcn.out]; have := HLL.out; omega))
                    have HBI := Lib.hid (bestTo_is G Q)
                    go_wp2_with fail
                    go_loopw [13, 14] (fun b i wr => ∃ (j : Nat) (x : Int), j ≤ n ∧ i = .int .i64 j ∧ b = .int .i64 x ∧ Hid (x = bestTo G Q j) ∧ Hid (Own wr w.heap.size (.slice (some ⟨og, 0, none⟩) n wc) (lst (give S G) n)) ∧ Hid (wr.ownsRow gb 4 1 (.slice (some ⟨gb, 0, none⟩) n n) n (flags G n)) ∧ Hid (Below w.heap.size w wr)) (fun _ i _ => n - (intOf i).toNat)
                    case atStart => exact ⟨0, -1, Nat.zero_le _, rfl, rfl, Lib.hid rfl, hO, hG, hBl⟩
                    case round =>
                      clear hO hG hBl
                      obtain ⟨j, x, hj, rfl, rfl, hx, hO, hG, hBl⟩ := hrel
                      by_cases hjn : j < n
                      · have hji : (j : Int) < (n : Int) := by omega
                        have gj := (hG.out.cellAt j (by omega)).trans (flags_get hjn)
                        have HST : Hid (bestTo G Q (j + 1) = if G j = false ∧ (x < 0 ∨ Q x.toNat < Q j) then (j : Int) else x) := Lib.hid (by rw [hx.out]; rfl)
                        cases hg : G j with
                        | true =>
                          rw [hg] at gj
                          have HE : Hid (x = bestTo G Q (j + 1)) := Lib.hid (by rw [HST.out, if_neg (by rw [hg]; simp)])
                          clear HST hg hx
                          go_wp2_with fail
                          go_quiet (fail)
                          go_wp2_with fail
                          go_roundw
                          case rel => exact ⟨j + 1, x, by omega, by go_num, rfl, HE, Lib.hid (hO.out.below (bdN _ _)), Lib.hid (rowN hG.out _), Lib.hid (hBl.out.trans ((bdN _ _).mono hBl.out.size))⟩
                          case measure => simp [intOf]; omega
                        | false =>
                          rw [hg] at gj
                          rcases HBI.out j with ⟨h1, _⟩ | ⟨b0, h1, hb0, _, _⟩
                          · have hxn : x = -1 := hx.out.trans h1
                            have HE : Hid ((j : Int) = bestTo G Q (j + 1)) := Lib.hid (by rw [HST.out, if_pos ⟨hg, .inl (by omega)⟩])
                            subst hxn
                            clear HST hg hx h1
                            go_wp2_with fail
                            go_quiet (fail)
                            go_wp2_with fail
                            go_roundw
                            case rel => exact ⟨j + 1, j, by omega, by go_num, rfl, HE, Lib.hid (hO.out.below (bdN _ _)), Lib.hid (rowN hG.out _), Lib.hid (hBl.out.trans ((bdN _ _).mono hBl.out.size))⟩
                            case measure => simp [intOf]; omega
                          · have hxn : x = (b0 : Int) := hx.out.trans h1
                            subst hxn
                            have hbn : b0 < n := by omega
                            have hx0 : ¬ (b0 : Int) < 0 := by omega
                            have hx1 : (b0 : Int) < (n : Int) := by omega
                            have hx2 : (0 : Int) ≤ (b0 : Int) := by omega
                            have hci := HCI.out
                            have hab := HAB.out
                            have hna := HA0.out
                            have h60' := HN60.out
                            obtain ⟨b, off, cap, e, hc⟩ := HP.out (by omega)
                            simp only [Value.slice.injEq, true_and] at e
                            obtain ⟨rfl, rfl⟩ := e
                            have hbw : b < w.heap.size := World.block_lt_of_cell? w _ (hc 0 (by omega))
                            have k1 := (hBl.out.cell (p := ⟨b, _, none⟩) hbw).trans (hc j hjn)
                            obtain ⟨⟨g0, g1⟩, ⟨m0, m1⟩, ⟨s0, s1⟩, ⟨q0, q1⟩, eS, eQ⟩ := HVV.out j hjn
                            have u1 : ∀ [Inhabited Nat], IntKind.i64.wrap (c * gs.getD j 0) = c * gs.getD j 0 := by intro _; exact (IntWalk.i64_in _ (by omega)).trans (by omega)
                            have u2 : ∀ [Inhabited Nat], wrap64 (c * gs.getD j 0) = c * gs.getD j 0 := by intro _; exact (IntWalk.wrap64_in _ (by omega)).trans (by omega)
                            have u3 : ∀ [Inhabited Nat], IntKind.i64.wrap ((c * gs.getD j 0).tmod a) = Q j := by intro _; rw [eQ]; exact (IntWalk.i64_in _ (by omega)).trans (by omega)
                            have u4 : ∀ [Inhabited Nat], wrap64 ((c * gs.getD j 0).tmod a) = Q j := by intro _; rw [eQ]; exact (IntWalk.wrap64_in _ (by omega)).trans (by omega)
                            have eM : c * gs.getD j 0 % a = Q j := (Int.tmod_eq_emod_of_nonneg m0).symm.trans eQ
                            have k1' := (hBl.out.cell (p := ⟨b, _, none⟩) hbw).trans (hc b0 hbn)
                            obtain ⟨⟨g0', g1'⟩, ⟨m0', m1'⟩, ⟨s0', s1'⟩, ⟨q0', q1'⟩, eS', eQ'⟩ := HVV.out b0 hbn
                            have u1' : ∀ [Inhabited Nat], IntKind.i64.wrap (c * gs.getD b0 0) = c * gs.getD b0 0 := by intro _; exact (IntWalk.i64_in _ (by omega)).trans (by omega)
                            have u2' : ∀ [Inhabited Nat], wrap64 (c * gs.getD b0 0) = c * gs.getD b0 0 := by intro _; exact (IntWalk.wrap64_in _ (by omega)).trans (by omega)
                            have u3' : ∀ [Inhabited Nat], IntKind.i64.wrap ((c * gs.getD b0 0).tmod a) = Q b0 := by intro _; rw [eQ']; exact (IntWalk.i64_in _ (by omega)).trans (by omega)
                            have u4' : ∀ [Inhabited Nat], wrap64 ((c * gs.getD b0 0).tmod a) = Q b0 := by intro _; rw [eQ']; exact (IntWalk.wrap64_in _ (by omega)).trans (by omega)
                            have eM' : c * gs.getD b0 0 % a = Q b0 := (Int.tmod_eq_emod_of_nonneg m0').symm.trans eQ'
                            rw [Int.toNat_natCast] at HST
                            by_cases hq : Q b0 < Q j
                            · have HE : Hid ((j : Int) = bestTo G Q (j + 1)) := Lib.hid (by rw [HST.out, if_pos ⟨hg, .inr hq⟩])
                              have hqt : (c * gs.getD b0 0).tmod a < (c * gs.getD j 0).tmod a := by rw [eQ, eQ']; exact hq
                              clear HST hg hx h1 hc eS eQ eS' eQ'
                              generalize Q j = qj at *
                              generalize Q b0 = qb at *
                              generalize gs.getD j 0 = gj0 at *
                              generalize gs.getD b0 0 = gb0 at *
                              go_wp2_with fail
                              go_quiet (fail)
                              go_wp2_with fail
                              go_roundw
                              case rel => exact ⟨j + 1, j, by omega, by go_num, rfl, HE, Lib.hid (hO.out.below (bdN _ _)), Lib.hid (rowN hG.out _), Lib.hid (hBl.out.trans ((bdN _ _).mono hBl.out.size))⟩
                              case measure => simp [intOf]; omega
                            · have HE : Hid ((b0 : Int) = bestTo G Q (j + 1)) := Lib.hid (by rw [HST.out, if_neg (fun h => by rcases h.2 with h | h <;> omega)])
                              have hqt : ¬ (c * gs.getD b0 0).tmod a < (c * gs.getD j 0).tmod a := by rw [eQ, eQ']; exact hq
                              clear HST hg hx h1 hc eS eQ eS' eQ'
                              generalize Q j = qj at *
                              generalize Q b0 = qb at *
                              generalize gs.getD j 0 = gj0 at *
                              generalize gs.getD b0 0 = gb0 at *
                              go_wp2_with fail
                              go_quiet (fail)
                              go_wp2_with fail
                              go_roundw
                              case rel => exact ⟨j + 1, b0, by omega, by go_num, rfl, HE, Lib.hid (hO.out.below (bdN _ _)), Lib.hid (rowN hG.out _), Lib.hid (hBl.out.trans ((bdN _ _).mono hBl.out.size))⟩
                              case measure => simp [intOf]; omega
                      · obtain rfl : j = n := by omega
                        have hji : ¬ (j : Int) < (j : Int) := by omega
                        obtain ⟨b, e1, hb, hgf, hup1, hcn1⟩ := HBS.out
                        rw [e1] at hx
                        obtain rfl : x = (b : Int) := hx.out
                        have rG := hG.out
                        have dG := (rG.cellAt b (by omega)).trans (flags_get hb)
                        have fG := rG.frozenAt b
                        have sG := (rG.stored b (.bool true)).1
                        rw [flags_put] at sG
                        have hne : gb ≠ og := by have := HOG.out.2; omega
                        have rO := hO.out.row
                        rw [lst_length] at rO
                        have rO1 := rO.kept (grownBy_setT wr gb b (.bool true)) (.inr (by simp [Value.ownBlock]; omega))
                        have dO := (rO1.cellAt b (by omega)).trans (cellOf (by rw [lst_length]; exact hb))
                        rw [lst_get hb, show give S G b = S b by simp [give, hgf]] at dO
                        have fO := rO1.frozenAt b
                        have sO := (rO1.stored b (.int .i64 (S b + 1))).1
                        rw [← List.map_set, give_put hgf] at sO
                        have HS2 := Lib.hid (sG.kept (grownBy_setT (wr.setCell ⟨gb, b, none⟩ (.bool true)) og b (.int .i64 (S b + 1))) (.inr (by simp [Value.ownBlock]; omega)))
                        have HO2 : Hid (Own ((wr.setCell ⟨gb, b, none⟩ (.bool true)).setCell ⟨og, b, none⟩ (.int .i64 (S b + 1))) w.heap.size (.slice (some ⟨og, 0, none⟩) j wc) (lst (give S (put1 G b)) j)) := Lib.hid (by
                          show World.ownsRow _ _ _ _ _ _ _
                          rw [lst_length]
                          exact sO)
                        have HT2 := Lib.hid ((hBl.out.setCell (p := ⟨gb, b, none⟩) HSZ.out (.bool true)).setCell (p := ⟨og, b, none⟩) HOG.out.1 (.int .i64 (S b + 1)))
                        have hsb := (HVV.out b hb).2.2.1
                        have hll := HLL.out
                        have h60' := HN60.out
                        have hb0 : (0 : Int) ≤ (b : Int) := by omega
                        have hb1' : (b : Int) < (j : Int) := by omega
                        have HC1 : Hid (cnt (put1 G b) j = t + 1) := Lib.hid (by rw [hcn1, hcn.out])
                        have HU1 := Lib.hid hup1
                        clear rG sG rO rO1 sO hO hG hBl hup1 hcn1 e1 hx HBS hcn hup
                        generalize S b = sb at *
                        go_wp2_with fail
                        go_roundw
                        case rel => exact ⟨t + 1, put1 G b, by omega, by go_num, HC1, HU1, HO2, HS2, HT2⟩
                        case measure => simp [intOf]; omega
                  · have htz : (t : Int) = z := by omega
                    have hgt : ¬ 0 < z - (t : Int) := by omega
                    have HEND : Hid (lst (give S G) n = F.1) := Lib.hid (by
                      rw [HE.out]
                      refine lst_same fun i hi => ?_
                      have := upw_end hup.out hcn.out i hi
                      unfold give
                      rw [this, ← htz]
                      simp)
                    have HF2 : Hid (F.2 = 0) := Lib.hid (by rw [HE.out])
                    clear hcn hup
                    go_wp2_with fail
                    go_returns
                    refine ⟨_, ret_share HF2.out.symm, ?_, hBl.out⟩
                    rw [← HEND.out]
                    exact hO.out
end Go.Proofs.Ytklgklkfolbjcaa
