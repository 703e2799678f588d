/-
  No statement is proved here: what ReadWeb answers in the program; conditions: at most 1048576 bytes, the library's variables hold what they should.
-/
import Derived.Test.YtljnhggblmdlnaaDoorReadSame
namespace Go.Proofs.YtljnhggblmdlnaaDoor
open Go.ChangeShapes Go.WideShapes Go.ChangeAt Go.RowKit

/-- What the library's variables hold. -/
def Err (w : World) (g : Nat) : Prop := ∃ ev, w.cell? ⟨g, 0, none⟩ = some ev ∧ (ev = .nilIface ∨ ∃ te pe, ev = .iface te pe)
def Env (w : World) : Prop := (∃ m, w.cell? ⟨6, 0, none⟩ = some (.int .i64 m)) ∧ Err w 4 ∧ Err w 5 ∧ Lib.TabIs Tryd.prog w "internal/strconv.uint64pow10" .u64 Lib.pow10Tab
theorem Err.grown {w w' : World} {g : Nat} {row : Option Nat} (h : Err w g) (hg : w.grownBy w' row) (hne : some g ≠ row) : Err w' g := by
  obtain ⟨ev, h1, h2⟩ := h
  exact ⟨ev, hg.cell h1 hne, h2⟩
theorem Env.grown {w w' : World} {row : Option Nat} (h : Env w) (hg : w.grownBy w' row) (hne : ∀ k, row = some k → 6 + 1 ≤ k) : Env w' := by
  obtain ⟨⟨m, h1⟩, h2, h3, h4⟩ := h
  have hx : ∀ g : Nat, g < 6 + 1 → some g ≠ row := fun g hg4 e => by have := hne g e.symm; omega
  refine ⟨⟨m, hg.cell h1 (hx _ (by decide))⟩, h2.grown hg (hx _ (by decide)), h3.grown hg (hx _ (by decide)), ?_⟩
  have hlt := tab_lt h4
  unfold Lib.TabIs at h4 ⊢
  unfold World.var? at h4 ⊢
  have gp : Tryd.prog.globalNamed "internal/strconv.uint64pow10" = some 3 := by kernel_rfl
  rw [gp] at h4 ⊢
  simp only [Option.bind_some] at h4 ⊢
  rw [hg.block _ (hlt _ gp) (hx _ (by decide))]
  exact h4
theorem Env.below {w w' : World} (h : Env w) (hB : Below w.heap.size w w') : Env w' := h.grown (grown_of_below hB none) (fun k e => by cases e)
theorem Env.size {w : World} (h : Env w) : 6 + 1 ≤ w.heap.size := by
  obtain ⟨⟨m, h1⟩, _⟩ := h
  exact World.block_lt_of_cell? w _ h1
theorem texts_made (w : World) (t : TypeId) (L : List ByteArray) (ws : List (List UInt8)) (h : L.map (·.data.toList) = ws) : Texts (w.alloc (.cells (L.map Value.string).toArray t)) w.heap.size ws := by
  refine ⟨by simp, fun j hj => ?_⟩
  have hl : L.length = ws.length := by rw [← h]; simp
  have e1 : (L.map Value.string)[j]? = some (.string ⟨(ws.getD j []).toArray⟩) := by
    subst h
    rw [List.length_map] at hj
    rw [List.getElem?_map, List.getElem?_eq_getElem hj]
    simp [List.getD, hj]
  have e2 : (w.alloc (.cells (L.map Value.string).toArray t)).heap[w.heap.size]? = some (.cells (L.map Value.string).toArray t) := heap_alloc_new _ _
  simp only [World.cell?, e2]
  simpa using e1
theorem sp_piece : ∀ (l x : List UInt8), x ∈ sp l → x.length ≤ l.length
  | [], x, h => by
    simp [sp] at h
    simp [h]
  | c :: cs, x, h => by
    rw [sp] at h
    split at h
    · rcases List.mem_cons.1 h with e | e
      · simp [e]
      · have := sp_piece cs x e
        simp
        omega
    · obtain ⟨y, ys, e⟩ := sp_cons cs
      rw [e] at h
      rcases List.mem_cons.1 h with e2 | e2
      · have := sp_piece cs y (by rw [e]; simp)
        rw [e2]
        simp
        exact this
      · have := sp_piece cs x (by rw [e]; exact List.mem_cons_of_mem _ e2)
        simp
        omega

set_option maxRecDepth 100000 in
set_option maxHeartbeats 8000000 in
theorem implRead_any (s : ByteArray) (w : World) (hs : s.size ≤ 1048576) (henv : Env w) :
    Calls Tryd.prog 11 #[.string s] w fun e w' => ∃ r, e = .returned (.tuple #[r, .int .i64 (readF s.data.toList).2]) ∧ Own w' w.heap.size r (readF s.data.toList).1 ∧ Below w.heap.size w w' := by
  obtain ⟨i0, hi, hz0, hz1, hz2⟩ := info_parts info64
  obtain ⟨mx, hmx⟩ := henv.1
  have HSP := Lib.hid (Tryd.strings_Split s ⟨#[32]⟩ mx w (by omega) hmx (by decide))
  have hwords := split_words s
  have hcount := split_len s
  have hsz : s.data.toList.length = s.size := by simp
  rw [← read_same]
  have hTL : s.toList = s.data.toList := toList_is s
  obtain ⟨l, hl⟩ : ∃ l, l = s.data.toList := ⟨_, rfl⟩
  rw [← hl] at hwords hsz hTL ⊢
  obtain ⟨L, hL⟩ : ∃ L, L = Lib.splitB ⟨#[32]⟩ 0 (Lib.countB s ⟨#[32]⟩) s := ⟨_, rfl⟩
  rw [← hL] at HSP hwords hcount
  have hpiece := sp_piece l
  have HBAD := Lib.hid fun k hk h => readI_bad (l := l) (k := k) hk h
  have HYES := Lib.hid fun h h2 h3 => readI_yes (l := l) h h2 h3
  have HINV := Lib.hid fun h h2 => readI_inv (l := l) h h2
  have HOTH := Lib.hid fun h h2 h3 => readI_other (l := l) h h2 h3
  have HFEW := Lib.hid fun h => few_words (l := l) okP_ne h
  have hsl := sp_length l
  obtain ⟨R, hR⟩ : ∃ R, R = readI l := ⟨_, rfl⟩
  rw [← hR] at HBAD HYES HINV HOTH ⊢
  obtain ⟨ws, hws⟩ : ∃ ws, ws = sp l := ⟨_, rfl⟩
  rw [← hws] at hwords hpiece HBAD HYES HINV HOTH HFEW hsl
  have HST := Lib.hid (vals_step ws)
  have HNL := Lib.hid (vals_length ws)
  have HTX := Lib.hid (texts_made w 9 L ws hwords)
  have hnl : Lib.countB s ⟨#[32]⟩ + 1 = ws.length := by rw [← hcount, ← hwords, List.length_map]
  rw [hnl] at HSP
  obtain ⟨n, hn⟩ : ∃ n, n = ws.length := ⟨_, rfl⟩
  have HN := Lib.hid hn
  rw [← hn] at HSP hsl HST HNL HBAD HFEW
  have hn2 : n ≤ 1048577 := by omega
  have HF2 : Hid (ws.all okP = true → n ≤ 1048576) := fun h => by have := HFEW.out h; omega
  have HPC : Hid (∀ x, x ∈ ws → x.length ≤ 1048576) := fun x hx => by have := hpiece x hx; omega
  have HEV := Lib.hid henv
  have HTLL := Lib.hid hTL
  have hE4 := henv.size
  obtain ⟨B, hBe⟩ : ∃ B, B = w.heap.size := ⟨_, rfl⟩
  have HB := Lib.hid hBe
  rw [← hBe] at HSP HTX hE4 ⊢
  clear hR hws hl hn hsl hsz HFEW hBe hs hL hwords hcount hpiece hnl henv hmx hTL
  go_enter Tryd.func11, Tryd.ntmps11
  go_wp2_with fail
  refine HSP.out.mono ?_
  rintro e w1 ⟨rfl, rfl⟩
  have E1 : Hid (Below B w (w.alloc (.cells (L.map Value.string).toArray 9))) := (Below.refl _ _).alloc (by rw [HB.out]; exact Nat.le_refl _) _
  have V1 : Hid (Env (w.alloc (.cells (L.map Value.string).toArray 9))) := HEV.out.below ((Below.refl w.heap.size w).alloc (Nat.le_refl _) _)
  have Z1 : Hid (B < (w.alloc (.cells (L.map Value.string).toArray 9)).heap.size) := by
    show B < _
    rw [HB.out]
    simp
  generalize w.alloc (.cells (L.map Value.string).toArray 9) = w1 at E1 V1 Z1 HTX ⊢
  clear HSP HEV
  obtain ⟨C, hC⟩ : ∃ C, C = w1.heap.size := ⟨_, rfl⟩
  have hBC : B < C := by rw [hC]; exact Z1.out
  have S0 : Hid (Own w1 C (.slice none 0 0) ((vals ws).take 0)) := World.ownsRow_nil _ _ _ _
  have S3 : Hid (C ≤ w1.heap.size) := by
    show C ≤ _
    omega
  clear hC Z1
  go_wp2_with fail
  go_loopw [4, 12] (fun v i wr => ∃ (k : Nat) (u : Value), k ≤ n ∧ i = .int .i64 k ∧ u = v ∧ Hid (∀ j, j < k → okP (ws.getD j []) = true) ∧ Hid (Own wr C v ((vals ws).take k)) ∧ Hid (Below B w wr) ∧ Hid (Texts wr B ws) ∧ Hid (C ≤ wr.heap.size) ∧ Hid (Env wr)) (fun _ i _ => n - (intOf i).toNat)
  case atStart => exact ⟨0, _, Nat.zero_le _, rfl, rfl, fun j hj => absurd hj (Nat.not_lt_zero _), S0, E1, HTX, S3, V1⟩
  case round =>
    clear S0 S3 E1 V1 HTX
    obtain ⟨k, v, hk, rfl, rfl, hA, hO, hE, hT, hZ, hV⟩ := hrel
    have hszB : B ≤ wr.heap.size := by have := hE.out.size; rw [HB.out]; exact this
    have hszC := hZ.out
    by_cases hlt : k < n
    · have hki : (k : Int) < (n : Int) := by omega
      have c1 := hT.out.2 k (by rw [← HN.out]; exact hlt)
      have hst := HST.out k hlt
      have hbad := HBAD.out k hlt
      have hnl := HNL.out
      have hpc := HPC.out (ws.getD k []) (by rw [List.getD, List.getElem?_eq_getElem (by rw [← HN.out]; exact hlt)]; exact List.getElem_mem _)
      obtain ⟨x, hx⟩ : ∃ x, x = ws.getD k [] := ⟨_, rfl⟩
      rw [← hx] at c1 hst hbad hpc
      have HX := Lib.hid hx
      have hxs : (⟨x.toArray⟩ : ByteArray).size = x.length := by show x.toArray.size = _; simp
      clear hx
      have hlen : ((vals ws).take k).length = k := by rw [List.length_take, hnl]; omega
      obtain ⟨evs, hs1, hs2⟩ := hV.out.2.1
      obtain ⟨evr, hr1, hr2⟩ := hV.out.2.2.1
      rcases hp : Lib.parseIntB 64 x with q | _ | _
      rotate_left
      · skip
        have hb : okP x = false := by rw [okP, hp]
        have HC := Lib.hid (Tryd.strconv_ParseInt_10_at64_syntax ⟨x.toArray⟩ (by omega) (hp.trans rfl) evs wr hs1 hs2)
        have HR := Lib.hid (hbad hb)
        clear hbad hb hst hnl hlen hA hO hT hs1 hs2 hr1 hr2 hp hV hxs hpc
        go_wp2_with fail
        refine HC.out.mono ?_
        rintro e w2 ⟨N, rfl, _, _, hB⟩
        have E2 := Lib.hid (hE.out.trans (hB.mono hszB))
        clear hB HC hE
        go_wp2_with fail
        go_returns
        rw [HR.out]
        exact ⟨_, rfl, World.ownsRow_nil _ _ _ _, E2.out⟩
      · skip
        have hb : okP x = false := by rw [okP, hp]
        have HC := Lib.hid (Tryd.strconv_ParseInt_10_at64_range ⟨x.toArray⟩ (by omega) hp evr wr hr1 hr2)
        have HR := Lib.hid (hbad hb)
        clear hbad hb hst hnl hlen hA hO hT hs1 hs2 hr1 hr2 hp hV hxs hpc
        go_wp2_with fail
        refine HC.out.mono ?_
        rintro e w2 ⟨N, rfl, _, _, hB⟩
        have E2 := Lib.hid (hE.out.trans (hB.mono hszB))
        clear hB HC hE
        go_wp2_with fail
        go_returns
        rw [HR.out]
        exact ⟨_, rfl, World.ownsRow_nil _ _ _ _, E2.out⟩
      · skip
        have hb : okP x = true := by rw [okP, hp]
        have hvq : valP x = q := by rw [valP, hp]
        rw [hvq] at hst
        have HC := Lib.hid (Tryd.strconv_ParseInt_10_at64_ok ⟨x.toArray⟩ (by omega) q hp wr)
        have HB1 := Lib.hid hb
        have HST2 := Lib.hid hst
        clear hbad hb hst hnl hs1 hs2 hr1 hr2 hp hxs hpc hvq
        go_wp2_with fail
        refine HC.out.mono ?_
        rintro e w2 ⟨rfl, hw2⟩
        have hB2 : Below wr.heap.size wr w2 := by
          rcases hw2 with rfl | ⟨tt, rfl⟩
          · exact Below.refl _ _
          · exact Lib.bytesWorld_below _ _ _
        have O2 : Hid (Own w2 C v ((vals ws).take k)) := hO.out.below hB2
        have E2 := Lib.hid (hE.out.trans (hB2.mono hszB))
        have T2 := Lib.hid (hT.out.below hB2)
        have Z2 : Hid (C ≤ w2.heap.size) := Nat.le_trans hszC hB2.size
        have V2 := Lib.hid (hV.out.below hB2)
        have hszB2 : B ≤ w2.heap.size := Nat.le_trans hszB hB2.size
        clear hw2 hB2 hO hE hT hZ hV HC hszC hszB c1
        have hszC2 := Z2.out
        go_wp2_with (first
          | (at_builtin; refine wpList_append_lies _ rfl _ _ _ rfl C 2 i0 (.int .i64 0) 1 8 Tryd.underlying22 hi hz0 hz1 hz2 rfl (by omega) v ((vals ws).take k).length _ rfl (O2.out.row.alloc _) ⟨w2.heap.size, 0, none⟩ 1 1 _ rfl rfl (World.news_of_block (heap_alloc_new w2 _)) (int_one _) (by omega) (by unfold maxLen; omega) (by omega) (by simp; omega) (w2.heap.size + 1) (by simp) ?_; intro gg cap2 w3 hown3 hgrow hat hlt2)
          | fail)
        have hne := fun j hj => (O2.out.row.lt j hj).1
        have hE3 := E2.out.grown (grown_alloc2 hgrow) hszB2 (fun j hj => by have := hne j hj; omega)
        have HO3 : Hid (Own w3 C (.slice (some ⟨gg, 0, none⟩) (((vals ws).take k).length + 1) cap2) ((vals ws).take (k + 1))) := by
          show World.ownsRow _ _ _ _ _ _ _
          rw [HST2.out, List.map_append, List.length_append, List.map_singleton]
          exact hown3
        have HA3 : Hid (∀ j, j < k + 1 → okP (ws.getD j []) = true) := fun j hj => by
          by_cases e : j = k
          · rw [e, ← HX.out]
            exact HB1.out
          · exact hA.out j (by omega)
        have HT3 : Hid (Texts w3 B ws) := T2.out.grown (grown_alloc2 hgrow) (fun e => by have := hne B e.symm; omega)
        have HV3 : Hid (Env w3) := V2.out.grown (grown_alloc2 hgrow) (fun j hj => by have := hne j hj; omega)
        rw [hlen] at HO3
        have HZ3 : Hid (C ≤ w3.heap.size) := Nat.le_trans hszC2 (grown_alloc2 hgrow).size
        clear hgrow hown3 hat hlt2 O2 E2 T2 V2 Z2 hA hne hlen HST2 HB1
        go_wp2_with fail
        go_roundw
        case rel => exact ⟨k + 1, _, by omega, by go_num, rfl, HA3, HO3, hE3, HT3, HZ3, HV3⟩
        case measure => simp [intOf]; omega
    · have hkn : k = n := by omega
      subst hkn
      have hall := all_of (ws := ws) (p := okP) (fun j hj => hA.out j (by rw [HN.out]; exact hj))
      have hO2 := hO.out
      rw [List.take_of_length_le (by rw [HNL.out]; exact Nat.le_refl _)] at hO2
      have hn1 := HF2.out hall
      have HK := Lib.hid (valid_any v (vals ws) wr hO2.ints (by rw [HNL.out]; exact hn1))
      have HW := Lib.hid (implText_any v (vals ws) wr hO2.ints (by rw [HNL.out]; exact hn1) hV.out.2.2.2)
      have HOO := Lib.hid hO2
      cases hok : okW (vals ws) with
      | false =>
        rw [hok] at HK
        have HR := Lib.hid (HINV.out hall hok)
        clear hok hall hO2 hO hA hT hZ HW
        go_wp2_with fail
        refine HK.out.mono ?_
        rintro e w2 ⟨rfl, rfl⟩
        go_wp2_with fail
        go_returns
        rw [HR.out]
        exact ⟨_, rfl, World.ownsRow_nil _ _ _ _, hE.out⟩
      | true =>
        rw [hok] at HK
        rw [textF, if_pos hok] at HW
        obtain ⟨X, hX⟩ : ∃ X, X = txtTo (vals ws) (vals ws).length := ⟨_, rfl⟩
        rw [← hX] at HW
        by_cases hXl : X = l
        · have HR := Lib.hid (HYES.out hall hok (by rw [← hX]; exact hXl))
          have q1 : (X == s.toList) = true := by rw [HTLL.out, beq_iff_eq]; exact hXl
          have q2 : (X != s.toList) = false := by rw [bne_eq_false_iff_eq, HTLL.out]; exact hXl
          clear hok hall hO2 hO hA hT hZ hX hXl
          go_wp2_with fail
          refine HK.out.mono ?_
          rintro e w2 ⟨rfl, rfl⟩
          go_wp2_with fail
          refine HW.out.mono ?_
          rintro e w2 ⟨rfl, hB⟩
          have O2 := Lib.hid (HOO.out.below hB)
          have E2 := Lib.hid (hE.out.trans (hB.mono hszB))
          clear hB hE HOO
          go_wp2_with fail
          go_returns
          rw [HR.out]
          exact ⟨_, rfl, O2.out.mono (Nat.le_of_lt hBC), E2.out⟩
        · have HR := Lib.hid (HOTH.out hall hok (by rw [← hX]; exact hXl))
          have q1 : (X == s.toList) = false := by rw [HTLL.out, beq_eq_false_iff_ne]; exact hXl
          have q2 : (X != s.toList) = true := by rw [bne_iff_ne, HTLL.out]; exact hXl
          clear hok hall hO2 hO hA hT hZ hX hXl
          go_wp2_with fail
          refine HK.out.mono ?_
          rintro e w2 ⟨rfl, rfl⟩
          go_wp2_with fail
          refine HW.out.mono ?_
          rintro e w2 ⟨rfl, hB⟩
          have E2 := Lib.hid (hE.out.trans (hB.mono hszB))
          clear hB hE HOO
          go_wp2_with fail
          go_returns
          rw [HR.out]
          exact ⟨_, rfl, World.ownsRow_nil _ _ _ _, E2.out⟩
end Go.Proofs.YtljnhggblmdlnaaDoor
