/-
  No statement is proved here: TakeLongest in the program, where it answers no error; conditions as stated.
-/
import Derived.Test.YtekejhnhkifcfaaTkN
import Derived.Deep.DeepCutAuto
import Derived.Deep.RegionHeld3
namespace Go.Proofs.Ytekejhnhkifcfaa
open Go.RowKit Go.Shelf

attribute [local go_sem] Oper.semAt_some

set_option maxRecDepth 100000 in
set_option maxHeartbeats 4000000 in
theorem implTake_yes (x0 x1 x2 x3 x4 x5 x6 x7 g : Int) (w : World) (hz : bd32 (z8 x0 x1 x2 x3 x4 x5 x6 x7)) (hok : okH (z8 x0 x1 x2 x3 x4 x5 x6 x7) = true) (hg : 0 ≤ g) (hs : g ≤ sumTo (z8 x0 x1 x2 x3 x4 x5 x6 x7) 8) :
    Calls Try.prog 20 #[.agg #[.int .i32 x0, .int .i32 x1, .int .i32 x2, .int .i32 x3, .int .i32 x4, .int .i32 x5, .int .i32 x6, .int .i32 x7], .int .i64 g] w fun e w' => e = .returned (.tuple #[h32 (takeF (z8 x0 x1 x2 x3 x4 x5 x6 x7) g).1, h32 (takeF (z8 x0 x1 x2 x3 x4 x5 x6 x7) g).2.1, .int .i64 (takeF (z8 x0 x1 x2 x3 x4 x5 x6 x7) g).2.2]) ∧ Below w.heap.size w w' := by
  have K0 := Lib.hid (TI.made w x0 x1 x2 x3 x4 x5 x6 x7 g 23 2 23)
  obtain ⟨W0, hW0⟩ : ∃ W0, W0 = ((((w.alloc (.cells #[.int .i32 x0, .int .i32 x1, .int .i32 x2, .int .i32 x3, .int .i32 x4, .int .i32 x5, .int .i32 x6, .int .i32 x7] 23)).alloc (.cells #[.int .i64 g] 2)).alloc (.cells #[.int .i32 0, .int .i32 0, .int .i32 0, .int .i32 0, .int .i32 0, .int .i32 0, .int .i32 0, .int .i32 0] 23)).alloc (.cells #[.int .i32 0, .int .i32 0, .int .i32 0, .int .i32 0, .int .i32 0, .int .i32 0, .int .i32 0, .int .i32 0] 23)) := ⟨_, rfl⟩
  rw [← hW0] at K0
  have HW0 := Lib.hid hW0
  have hv := Lib.hid (validHeap_exact x0 x1 x2 x3 x4 x5 x6 x7 W0)
  have hsum := Lib.hid fun wx (hx : HeapAt wx w.heap.size 0 (z8 x0 x1 x2 x3 x4 x5 x6 x7)) => sumOf32_any (z8 x0 x1 x2 x3 x4 x5 x6 x7) w.heap.size 0 wx hx hz
  obtain ⟨c0, c1, c2, c3, c4, c5, c6, c7⟩ : W0.cell? ⟨w.heap.size, 0, none⟩ = some (.int .i32 x0) ∧ W0.cell? ⟨w.heap.size, 1, none⟩ = some (.int .i32 x1) ∧ W0.cell? ⟨w.heap.size, 2, none⟩ = some (.int .i32 x2) ∧ W0.cell? ⟨w.heap.size, 3, none⟩ = some (.int .i32 x3) ∧ W0.cell? ⟨w.heap.size, 4, none⟩ = some (.int .i32 x4) ∧ W0.cell? ⟨w.heap.size, 5, none⟩ = some (.int .i32 x5) ∧ W0.cell? ⟨w.heap.size, 6, none⟩ = some (.int .i32 x6) ∧ W0.cell? ⟨w.heap.size, 7, none⟩ = some (.int .i32 x7) := ⟨K0.out.1.at0 (k := 0) (by omega), K0.out.1.at0 (k := 1) (by omega), K0.out.1.at0 (k := 2) (by omega), K0.out.1.at0 (k := 3) (by omega), K0.out.1.at0 (k := 4) (by omega), K0.out.1.at0 (k := 5) (by omega), K0.out.1.at0 (k := 6) (by omega), K0.out.1.at0 (k := 7) (by omega)⟩
  have cg := K0.out.2.1
  have hqe := Lib.hid (takeF_yes hok hg hs)
  have HOK := Lib.hid fun k (hk : k < 8) => okH_of hok k hk
  have hs8 := sum8k hok
  rw [hok] at hv
  have hok2 := Lib.hid hok
  have hz2 := Lib.hid hz
  obtain ⟨z, hzz⟩ : ∃ z, z = (z8 x0 x1 x2 x3 x4 x5 x6 x7) := ⟨_, rfl⟩
  rw [← hzz] at K0 hsum hqe HOK hs8 hs hok2 hz2
  rw [← hzz]
  have HZZ := Lib.hid hzz
  obtain ⟨S, hS⟩ : ∃ S, S = sumTo z 8 := ⟨_, rfl⟩
  rw [← hS] at hsum hs hs8
  have HSS := Lib.hid hS
  clear hW0 hz hok hzz hS
  have hg0 : decide (g < 0) = false := by simp; omega
  have hg1 : decide (S < g) = false := by simp; omega
  refine (callsIn_wide (n := 9)).1 ?_
  refine callsIn_of_wp_marks Try.func20 rfl trivial ?_ rfl
  simp only [Try.ntmps20, List.size_toArray, List.length_cons, List.length_nil, Nat.reduceAdd, Nat.reduceSub, Array.replicate_succ, Array.replicate_zero, List.push_toArray, List.append_toArray, List.nil_append, List.cons_append]
  refine wpIn_wide.2 ?_
  go_wp2_with fail
  rw [← HW0.out]
  go_wp2_with fail
  refine hv.out.mono ?_
  rintro e w1 ⟨rfl, hw1⟩
  have K1 := Lib.hid (K0.out.next (hw1 ▸ (Below.refl _ _).alloc (Nat.le_refl _) _))
  clear hw1 c0 c1 c2 c3 c4 c5 c6 c7 cg
  have cg1 := K1.out.2.1
  go_wp2_with fail
  go_cut [24] from 21 to 24 (fun s wx => s = .bool false ∧ ∃ n, wx = w1.drewN n)
  case first =>
    refine wp_region_noPanic ?_
    go_region_with (first | (go_at_call 41; refine (hsum.out _ (by exact fun k hk => K1.out.1 k hk)).mono ?_; rintro e w2 ⟨rfl, rfl⟩))
    all_goals
      refine NoPanic.normal ?_
      go_wp2_with fail
      go_meet
    all_goals exact ⟨rfl, 1, rfl⟩
  case rest =>
    obtain ⟨rfl, nd, rfl⟩ := hcut
    have K2 := Lib.hid (K1.out.next (bdN w1 nd))
    generalize w1.drewN nd = w2 at *
    clear cg1 hv
    obtain ⟨c0, c1, c2, c3, c4, c5, c6, c7⟩ : w2.cell? ⟨w.heap.size, 0, none⟩ = some (.int .i32 (z 0)) ∧ w2.cell? ⟨w.heap.size, 1, none⟩ = some (.int .i32 (z 1)) ∧ w2.cell? ⟨w.heap.size, 2, none⟩ = some (.int .i32 (z 2)) ∧ w2.cell? ⟨w.heap.size, 3, none⟩ = some (.int .i32 (z 3)) ∧ w2.cell? ⟨w.heap.size, 4, none⟩ = some (.int .i32 (z 4)) ∧ w2.cell? ⟨w.heap.size, 5, none⟩ = some (.int .i32 (z 5)) ∧ w2.cell? ⟨w.heap.size, 6, none⟩ = some (.int .i32 (z 6)) ∧ w2.cell? ⟨w.heap.size, 7, none⟩ = some (.int .i32 (z 7)) := ⟨K2.out.1.at0 (k := 0) (by omega), K2.out.1.at0 (k := 1) (by omega), K2.out.1.at0 (k := 2) (by omega), K2.out.1.at0 (k := 3) (by omega), K2.out.1.at0 (k := 4) (by omega), K2.out.1.at0 (k := 5) (by omega), K2.out.1.at0 (k := 6) (by omega), K2.out.1.at0 (k := 7) (by omega)⟩
    have hlt2 : w.heap.size < w2.heap.size := K2.out.1.lt
    go_wp2_with fail
    refine (backward_any _ _ _ _).mono ?_
    rintro e w3 ⟨rfl, hw3⟩
    go_wp2_with fail
    obtain ⟨u30, hu30⟩ : ∃ u : Nat, u = 0 := ⟨0, rfl⟩
    have hz2s : w.heap.size + 4 ≤ w2.heap.size := by have := K2.out.2.2.1.2.lt; omega
    have hs3 : w3.heap.size = w2.heap.size + 3 := by rw [← hw3]; simp
    have hB3 : Below w.heap.size w w3 := by rw [← hw3]; exact K2.out.2.2.2.2.trans (by go_grown)
    have hI0 : TT w (w.heap.size + 1) w2.heap.size (stT z g []) w3 := by
      have A : Below w2.heap.size w2 w3 := by rw [← hw3]; go_grown
      refine ⟨⟨kept A (by omega) K2.out.2.1, (A.frozen (p := ⟨w.heap.size + 1, 0, none⟩) (by show w.heap.size + 1 < _; omega)).trans (K2.out.2.2.2.1 _ _ (by omega) (by omega))⟩, ⟨?_, ?_⟩, ⟨?_, ?_⟩, ⟨K2.out.2.2.1.1.below A (by omega), fun o ho => (A.frozen (p := ⟨w.heap.size + 2, o, none⟩) (by show w.heap.size + 2 < _; omega)).trans (K2.out.2.2.2.1 _ _ (by omega) (by omega))⟩, ⟨K2.out.2.2.1.2.below A (by omega), fun o ho => (A.frozen (p := ⟨w.heap.size + 3, o, none⟩) (by show w.heap.size + 3 < _; omega)).trans (K2.out.2.2.2.1 _ _ (by omega) (by omega))⟩⟩
      · rw [← hw3]
        exact (HeapAt.zero w2 _).below (((Below.refl (w2.heap.size + 1) _).alloc (by simp) _).alloc (by simp) _) (by omega)
      · intro o ho; rw [← hw3]; simp [go_sem]
      · rw [← hw3]
        have e := heapAt_alloc (w2.alloc (.cells #[.int .i32 0, .int .i32 0, .int .i32 0, .int .i32 0, .int .i32 0, .int .i32 0, .int .i32 0, .int .i32 0] 23)) (z 0) (z 1) (z 2) (z 3) (z 4) (z 5) (z 6) (z 7) 23
        rw [World.size_alloc] at e
        have e2 : HeapAt ((w2.alloc (.cells #[.int .i32 0, .int .i32 0, .int .i32 0, .int .i32 0, .int .i32 0, .int .i32 0, .int .i32 0, .int .i32 0] 23)).alloc (.cells #[.int .i32 (z 0), .int .i32 (z 1), .int .i32 (z 2), .int .i32 (z 3), .int .i32 (z 4), .int .i32 (z 5), .int .i32 (z 6), .int .i32 (z 7)] 23)) (w2.heap.size + 1) 0 z := fun k hk => by
          rw [e k hk]
          match k, hk with
          | 0, _ => rfl
          | 1, _ => rfl
          | 2, _ => rfl
          | 3, _ => rfl
          | 4, _ => rfl
          | 5, _ => rfl
          | 6, _ => rfl
          | 7, _ => rfl
          | k + 8, hk => omega
        exact e2.below ((Below.refl (w2.heap.size + 2) _).alloc (by simp) _) (by omega)
      · intro o ho; rw [← hw3]; simp [go_sem]
    have hBs : w3.cell? ⟨w2.heap.size + 1 + 1, 0, none⟩ = some (.slice (some ⟨w.heap.size, 0, none⟩) 8 8) := by rw [← hw3]; simp [go_sem]
    have hHh : HeapAt w3 w.heap.size 0 z := by rw [← hw3]; exact K2.out.1.below (B := w2.heap.size) (by go_grown) hlt2
    have HST := Lib.hid (stT_snoc z g)
    have HBD := Lib.hid (stT_bd (z := z) (g := g) hok2.out hg)
    have HDN := Lib.hid (stT_dn z g 8 (Nat.le_refl _))
    have hseq := backward_stops Fence.wide (9 - 1) trivial rfl (by omega) (w2.heap.size + 1 + 1) w.heap.size z w3 (by omega) (by omega) hBs hHh
    clear hw3 hBs hHh c0 c1 c2 c3 c4 c5 c6 c7 hsum
    refine (wpIn_wide (n := 9)).1 ?_
    refine wpIn_rangeFunc_ownG (n := 9) rfl (by omega) (gf := 59) (lb := #[.pointer (some ⟨w2.heap.size + 1 + 1, 0, none⟩)]) rfl trivial (enters_of Try.func59 (by kernel_rfl) rfl)
      hseq (fun h k => keepB_t h k) (fun W l o o' hl h h1 h2 => keepB_b (B := w3.heap.size) (by omega) (by omega) W l o o' hl h h1 h2) (Below.refl _ _) (fun _ => rfl)
      (fun pre W => TT w (w.heap.size + 1) w2.heap.size (stT z g pre) W ∧ Below w.heap.size w W)
      (fun _ _ _ => False)
      (fun s W W' row hs hgr hr => ⟨TT_own w (w.heap.size + 1) w2.heap.size (stT z g) s W W' row hs.1 hgr (fun r e => (hr r e).2), ownFrom_below (n₀ := w.heap.size) (w₀ := w) (Nat.le_refl _) (by omega) s W W' row hs.2 hgr hr⟩)
      (fun c s W W' row hs hgr hr => hs)
      ⟨hI0, hB3⟩
      (fun i => { tmps := #[.agg #[.int .i32 x0, .int .i32 x1, .int .i32 x2, .int .i32 x3, .int .i32 x4, .int .i32 x5, .int .i32 x6, .int .i32 x7], .int .i64 g, .pointer (some ⟨w.heap.size, 0, none⟩), .pointer (some ⟨w.heap.size + 1, 0, none⟩), .pointer (some ⟨w.heap.size + 1 + 1, 0, none⟩), .pointer (some ⟨w.heap.size + 1 + 1 + 1, 0, none⟩), .int .i64 0, .pointer (some ⟨w2.heap.size, 0, none⟩), .pointer (some ⟨w2.heap.size + 1, 0, none⟩), .int .i64 (i.val : Int), .int .i32 (z i.val), undef, .agg #[.int .i32 x0, .int .i32 x1, .int .i32 x2, .int .i32 x3, .int .i32 x4, .int .i32 x5, .int .i32 x6, .int .i32 x7], .bool true, .bool false, undef, undef, .int .i64 g, .bool false, undef, undef, u21, u22, u23, .bool false, undef, undef, .agg #[.int .i32 (z 0), .int .i32 (z 1), .int .i32 (z 2), .int .i32 (z 3), .int .i32 (z 4), .int .i32 (z 5), .int .i32 (z 6), .int .i32 (z 7)], .slice (some ⟨w.heap.size, 0, none⟩) 8 8, .func (.func 59) #[] #[.pointer (some ⟨w2.heap.size + 1 + 1, 0, none⟩)], .int .i64 (i.val : Int), .int .i32 (z i.val), undef, undef, undef, undef, undef, undef, undef, undef, undef, undef, undef, undef, undef, undef, undef, undef, undef, undef, undef, undef, undef, undef, undef], defers := [] }) ?assign ?body ?done ?stop
    case assign =>
      intro l x W K hK
      dsimp only [pairB]
      gi_wp2
      exact hK
    case body =>
      rintro l pre x W ⟨hI, hB⟩ hlen
      have hx : x.val < 8 := x.isLt
      obtain ⟨⟨r1, r2⟩, r3⟩ := HBD.out pre
      obtain ⟨⟨t1, t2⟩, l1, l2⟩ := r3 x.val hx
      have hzb := HOK.out x.val hx
      have hlen2 : (pre.length : Int) < 8 := by omega
      have a1 := hI.1.1
      have a2 := hI.1.2
      have a3 := hI.2.1.1.at0 hx
      have a4 := hI.2.1.2 x.val hx
      have a5 := hI.2.2.1.1.at0 hx
      have a6 := hI.2.2.1.2 x.val hx
      have HI := Lib.hid fun p (hp : p = min (z x.val) (stT z g pre).1) => TT_step (z := z) hI x hz2s rfl hp
      have HS := Lib.hid (HST.out pre x)
      have HB := Lib.hid hB
      clear r3 hI hB HBD
      obtain ⟨R, hR⟩ : ∃ R, (stT z g pre).1 = R := ⟨_, rfl⟩
      obtain ⟨T, hT⟩ : ∃ T, (stT z g pre).2.1 x.val = T := ⟨_, rfl⟩
      obtain ⟨L, hL⟩ : ∃ L, (stT z g pre).2.2 x.val = L := ⟨_, rfl⟩
      obtain ⟨y, hy⟩ : ∃ y, z x.val = y := ⟨_, rfl⟩
      rw [hR] at a1 r1 r2 HI
      rw [hT] at a3 t1 t2 HI
      rw [hL] at a5 l1 l2 HI
      rw [hy] at hzb HI ⊢
      clear hR hT hL
      have HY := Lib.hid hy
      clear hy
      obtain ⟨y0, y1⟩ := hzb
      by_cases hle : y ≤ R
      · have hT2 : 0 ≤ T + y ∧ T + y ≤ 9000 := by omega
        have hL2 : -9000 ≤ L - y ∧ L - y ≤ 1000 := by omega
        have HJ := Lib.hid (HI.out y (by omega))
        clear HI
        gi_wp2_with fail
        exact ⟨(((KeepsOthers.setCell _ _ _).trans (KeepsOthers.setCell _ _ _)).trans (KeepsOthers.setCell _ _ _)).from _, keepB_set (keepB_set (keepB_set (keepB_refl _ _ _) _ (by omega) (by omega)) _ (by omega) (by omega)) _ (by omega) (by omega), by rw [HS.out]; exact HJ.out, ((HB.out.setCell (by show _ ≤ w2.heap.size; omega) _).setCell (by show _ ≤ w2.heap.size + 1; omega) _).setCell (by show _ ≤ w.heap.size + 1; omega) _⟩
      · have hT2 : 0 ≤ T + R ∧ T + R ≤ 9000 := by omega
        have hL2 : -9000 ≤ L - R ∧ L - R ≤ 1000 := by omega
        have HJ := Lib.hid (HI.out R (by omega))
        clear HI
        rw [Int.sub_self] at HJ
        gi_wp2_with fail
        exact ⟨(((KeepsOthers.setCell _ _ _).trans (KeepsOthers.setCell _ _ _)).trans (KeepsOthers.setCell _ _ _)).from _, keepB_set (keepB_set (keepB_set (keepB_refl _ _ _) _ (by omega) (by omega)) _ (by omega) (by omega)) _ (by omega) (by omega), by rw [HS.out]; exact HJ.out, ((HB.out.setCell (by show _ ≤ w2.heap.size; omega) _).setCell (by show _ ≤ w2.heap.size + 1; omega) _).setCell (by show _ ≤ w.heap.size + 1; omega) _⟩
    case done =>
      rintro D ys W hD rfl ⟨hI, hB⟩ hK
      obtain ⟨e1, e2⟩ := HDN.out
      obtain ⟨A, hA⟩ : ∃ A, (stT z g (dn 8)).2.1 = A := ⟨_, rfl⟩
      obtain ⟨C, hC⟩ : ∃ C, (stT z g (dn 8)).2.2 = C := ⟨_, rfl⟩
      rw [show TT w (w.heap.size + 1) w2.heap.size (stT z g (dn 8)) W = TT w (w.heap.size + 1) w2.heap.size ((stT z g (dn 8)).1, (stT z g (dn 8)).2.1, (stT z g (dn 8)).2.2) W from rfl, hA, hC] at hI
      rw [hA, hC] at e2
      have c0 : W.cell? ⟨w2.heap.size, 0, none⟩ = some (.int .i32 (A 0)) := hI.2.1.1.at0 (by omega)
      have d0 : W.cell? ⟨w2.heap.size + 1, 0, none⟩ = some (.int .i32 (C 0)) := hI.2.2.1.1.at0 (by omega)
      have r0 : W.cell? ⟨w.heap.size + 1 + 1, 0, none⟩ = some (.int .i32 0) := hI.2.2.2.1.1.at0 (by omega)
      have q0 : W.cell? ⟨w.heap.size + 1 + 1 + 1, 0, none⟩ = some (.int .i32 0) := hI.2.2.2.2.1.at0 (by omega)
      have f0 : W.frozen? ⟨w.heap.size + 1 + 1, 0, none⟩ = false := hI.2.2.2.1.2 _ (by omega)
      have g0 : W.frozen? ⟨w.heap.size + 1 + 1 + 1, 0, none⟩ = false := hI.2.2.2.2.2 _ (by omega)
      have c1 : W.cell? ⟨w2.heap.size, 1, none⟩ = some (.int .i32 (A 1)) := hI.2.1.1.at0 (by omega)
      have d1 : W.cell? ⟨w2.heap.size + 1, 1, none⟩ = some (.int .i32 (C 1)) := hI.2.2.1.1.at0 (by omega)
      have r1 : W.cell? ⟨w.heap.size + 1 + 1, 1, none⟩ = some (.int .i32 0) := hI.2.2.2.1.1.at0 (by omega)
      have q1 : W.cell? ⟨w.heap.size + 1 + 1 + 1, 1, none⟩ = some (.int .i32 0) := hI.2.2.2.2.1.at0 (by omega)
      have f1 : W.frozen? ⟨w.heap.size + 1 + 1, 1, none⟩ = false := hI.2.2.2.1.2 _ (by omega)
      have g1 : W.frozen? ⟨w.heap.size + 1 + 1 + 1, 1, none⟩ = false := hI.2.2.2.2.2 _ (by omega)
      have c2 : W.cell? ⟨w2.heap.size, 2, none⟩ = some (.int .i32 (A 2)) := hI.2.1.1.at0 (by omega)
      have d2 : W.cell? ⟨w2.heap.size + 1, 2, none⟩ = some (.int .i32 (C 2)) := hI.2.2.1.1.at0 (by omega)
      have r2 : W.cell? ⟨w.heap.size + 1 + 1, 2, none⟩ = some (.int .i32 0) := hI.2.2.2.1.1.at0 (by omega)
      have q2 : W.cell? ⟨w.heap.size + 1 + 1 + 1, 2, none⟩ = some (.int .i32 0) := hI.2.2.2.2.1.at0 (by omega)
      have f2 : W.frozen? ⟨w.heap.size + 1 + 1, 2, none⟩ = false := hI.2.2.2.1.2 _ (by omega)
      have g2 : W.frozen? ⟨w.heap.size + 1 + 1 + 1, 2, none⟩ = false := hI.2.2.2.2.2 _ (by omega)
      have c3 : W.cell? ⟨w2.heap.size, 3, none⟩ = some (.int .i32 (A 3)) := hI.2.1.1.at0 (by omega)
      have d3 : W.cell? ⟨w2.heap.size + 1, 3, none⟩ = some (.int .i32 (C 3)) := hI.2.2.1.1.at0 (by omega)
      have r3 : W.cell? ⟨w.heap.size + 1 + 1, 3, none⟩ = some (.int .i32 0) := hI.2.2.2.1.1.at0 (by omega)
      have q3 : W.cell? ⟨w.heap.size + 1 + 1 + 1, 3, none⟩ = some (.int .i32 0) := hI.2.2.2.2.1.at0 (by omega)
      have f3 : W.frozen? ⟨w.heap.size + 1 + 1, 3, none⟩ = false := hI.2.2.2.1.2 _ (by omega)
      have g3 : W.frozen? ⟨w.heap.size + 1 + 1 + 1, 3, none⟩ = false := hI.2.2.2.2.2 _ (by omega)
      have c4 : W.cell? ⟨w2.heap.size, 4, none⟩ = some (.int .i32 (A 4)) := hI.2.1.1.at0 (by omega)
      have d4 : W.cell? ⟨w2.heap.size + 1, 4, none⟩ = some (.int .i32 (C 4)) := hI.2.2.1.1.at0 (by omega)
      have r4 : W.cell? ⟨w.heap.size + 1 + 1, 4, none⟩ = some (.int .i32 0) := hI.2.2.2.1.1.at0 (by omega)
      have q4 : W.cell? ⟨w.heap.size + 1 + 1 + 1, 4, none⟩ = some (.int .i32 0) := hI.2.2.2.2.1.at0 (by omega)
      have f4 : W.frozen? ⟨w.heap.size + 1 + 1, 4, none⟩ = false := hI.2.2.2.1.2 _ (by omega)
      have g4 : W.frozen? ⟨w.heap.size + 1 + 1 + 1, 4, none⟩ = false := hI.2.2.2.2.2 _ (by omega)
      have c5 : W.cell? ⟨w2.heap.size, 5, none⟩ = some (.int .i32 (A 5)) := hI.2.1.1.at0 (by omega)
      have d5 : W.cell? ⟨w2.heap.size + 1, 5, none⟩ = some (.int .i32 (C 5)) := hI.2.2.1.1.at0 (by omega)
      have r5 : W.cell? ⟨w.heap.size + 1 + 1, 5, none⟩ = some (.int .i32 0) := hI.2.2.2.1.1.at0 (by omega)
      have q5 : W.cell? ⟨w.heap.size + 1 + 1 + 1, 5, none⟩ = some (.int .i32 0) := hI.2.2.2.2.1.at0 (by omega)
      have f5 : W.frozen? ⟨w.heap.size + 1 + 1, 5, none⟩ = false := hI.2.2.2.1.2 _ (by omega)
      have g5 : W.frozen? ⟨w.heap.size + 1 + 1 + 1, 5, none⟩ = false := hI.2.2.2.2.2 _ (by omega)
      have c6 : W.cell? ⟨w2.heap.size, 6, none⟩ = some (.int .i32 (A 6)) := hI.2.1.1.at0 (by omega)
      have d6 : W.cell? ⟨w2.heap.size + 1, 6, none⟩ = some (.int .i32 (C 6)) := hI.2.2.1.1.at0 (by omega)
      have r6 : W.cell? ⟨w.heap.size + 1 + 1, 6, none⟩ = some (.int .i32 0) := hI.2.2.2.1.1.at0 (by omega)
      have q6 : W.cell? ⟨w.heap.size + 1 + 1 + 1, 6, none⟩ = some (.int .i32 0) := hI.2.2.2.2.1.at0 (by omega)
      have f6 : W.frozen? ⟨w.heap.size + 1 + 1, 6, none⟩ = false := hI.2.2.2.1.2 _ (by omega)
      have g6 : W.frozen? ⟨w.heap.size + 1 + 1 + 1, 6, none⟩ = false := hI.2.2.2.2.2 _ (by omega)
      have c7 : W.cell? ⟨w2.heap.size, 7, none⟩ = some (.int .i32 (A 7)) := hI.2.1.1.at0 (by omega)
      have d7 : W.cell? ⟨w2.heap.size + 1, 7, none⟩ = some (.int .i32 (C 7)) := hI.2.2.1.1.at0 (by omega)
      have r7 : W.cell? ⟨w.heap.size + 1 + 1, 7, none⟩ = some (.int .i32 0) := hI.2.2.2.1.1.at0 (by omega)
      have q7 : W.cell? ⟨w.heap.size + 1 + 1 + 1, 7, none⟩ = some (.int .i32 0) := hI.2.2.2.2.1.at0 (by omega)
      have f7 : W.frozen? ⟨w.heap.size + 1 + 1, 7, none⟩ = false := hI.2.2.2.1.2 _ (by omega)
      have g7 : W.frozen? ⟨w.heap.size + 1 + 1 + 1, 7, none⟩ = false := hI.2.2.2.2.2 _ (by omega)
      have HI := Lib.hid hI
      have HB := Lib.hid hB
      have HK := Lib.hid hK
      have HE := Lib.hid e2
      have B1 := set8_below (B := w.heap.size) W (w.heap.size + 1 + 1) (.int .i32 (A 0)) (.int .i32 (A 1)) (.int .i32 (A 2)) (.int .i32 (A 3)) (.int .i32 (A 4)) (.int .i32 (A 5)) (.int .i32 (A 6)) (.int .i32 (A 7)) (by omega)
      have HCA := set8_cells W (w.heap.size + 1 + 1) (.int .i32 (A 0)) (.int .i32 (A 1)) (.int .i32 (A 2)) (.int .i32 (A 3)) (.int .i32 (A 4)) (.int .i32 (A 5)) (.int .i32 (A 6)) (.int .i32 (A 7)) (fun i hi => by rw [hI.2.2.2.1.1.at0 hi]; rfl)
      have HCC := set8_cells (set8 W (w.heap.size + 1 + 1) (.int .i32 (A 0)) (.int .i32 (A 1)) (.int .i32 (A 2)) (.int .i32 (A 3)) (.int .i32 (A 4)) (.int .i32 (A 5)) (.int .i32 (A 6)) (.int .i32 (A 7))) (w.heap.size + 1 + 1 + 1) (.int .i32 (C 0)) (.int .i32 (C 1)) (.int .i32 (C 2)) (.int .i32 (C 3)) (.int .i32 (C 4)) (.int .i32 (C 5)) (.int .i32 (C 6)) (.int .i32 (C 7)) (fun i hi => by rw [set8_other _ _ _ _ _ _ _ _ _ _ (by omega), hI.2.2.2.2.1.at0 hi]; rfl)
      have hK9 := ((set8_keeps W (w.heap.size + 1 + 1) (.int .i32 (A 0)) (.int .i32 (A 1)) (.int .i32 (A 2)) (.int .i32 (A 3)) (.int .i32 (A 4)) (.int .i32 (A 5)) (.int .i32 (A 6)) (.int .i32 (A 7))).trans (set8_keeps (set8 W (w.heap.size + 1 + 1) (.int .i32 (A 0)) (.int .i32 (A 1)) (.int .i32 (A 2)) (.int .i32 (A 3)) (.int .i32 (A 4)) (.int .i32 (A 5)) (.int .i32 (A 6)) (.int .i32 (A 7))) (w.heap.size + 1 + 1 + 1) (.int .i32 (C 0)) (.int .i32 (C 1)) (.int .i32 (C 2)) (.int .i32 (C 3)) (.int .i32 (C 4)) (.int .i32 (C 5)) (.int .i32 (C 6)) (.int .i32 (C 7)))).same D _ hK rfl
      have HB9 := Lib.hid ((hB.trans B1).trans (set8_below (B := w.heap.size) (set8 W (w.heap.size + 1 + 1) (.int .i32 (A 0)) (.int .i32 (A 1)) (.int .i32 (A 2)) (.int .i32 (A 3)) (.int .i32 (A 4)) (.int .i32 (A 5)) (.int .i32 (A 6)) (.int .i32 (A 7))) (w.heap.size + 1 + 1 + 1) (.int .i32 (C 0)) (.int .i32 (C 1)) (.int .i32 (C 2)) (.int .i32 (C 3)) (.int .i32 (C 4)) (.int .i32 (C 5)) (.int .i32 (C 6)) (.int .i32 (C 7)) (by omega)))
      have BC := set8_below (B := w.heap.size + 1 + 1 + 1) (set8 W (w.heap.size + 1 + 1) (.int .i32 (A 0)) (.int .i32 (A 1)) (.int .i32 (A 2)) (.int .i32 (A 3)) (.int .i32 (A 4)) (.int .i32 (A 5)) (.int .i32 (A 6)) (.int .i32 (A 7))) (w.heap.size + 1 + 1 + 1) (.int .i32 (C 0)) (.int .i32 (C 1)) (.int .i32 (C 2)) (.int .i32 (C 3)) (.int .i32 (C 4)) (.int .i32 (C 5)) (.int .i32 (C 6)) (.int .i32 (C 7)) (Nat.le_refl _)
      obtain ⟨k0, k1, k2, k3, k4, k5, k6, k7⟩ := HCA
      have lt4 : w.heap.size + 1 + 1 < ((set8 W (w.heap.size + 1 + 1) (.int .i32 (A 0)) (.int .i32 (A 1)) (.int .i32 (A 2)) (.int .i32 (A 3)) (.int .i32 (A 4)) (.int .i32 (A 5)) (.int .i32 (A 6)) (.int .i32 (A 7)))).heap.size := World.block_lt_of_cell? _ _ k0
      have k0 := (BC.cell (p := ⟨w.heap.size + 1 + 1, 0, none⟩) (by show w.heap.size + 1 + 1 < _; omega)).trans k0
      have k1 := (BC.cell (p := ⟨w.heap.size + 1 + 1, 1, none⟩) (by show w.heap.size + 1 + 1 < _; omega)).trans k1
      have k2 := (BC.cell (p := ⟨w.heap.size + 1 + 1, 2, none⟩) (by show w.heap.size + 1 + 1 < _; omega)).trans k2
      have k3 := (BC.cell (p := ⟨w.heap.size + 1 + 1, 3, none⟩) (by show w.heap.size + 1 + 1 < _; omega)).trans k3
      have k4 := (BC.cell (p := ⟨w.heap.size + 1 + 1, 4, none⟩) (by show w.heap.size + 1 + 1 < _; omega)).trans k4
      have k5 := (BC.cell (p := ⟨w.heap.size + 1 + 1, 5, none⟩) (by show w.heap.size + 1 + 1 < _; omega)).trans k5
      have k6 := (BC.cell (p := ⟨w.heap.size + 1 + 1, 6, none⟩) (by show w.heap.size + 1 + 1 < _; omega)).trans k6
      have k7 := (BC.cell (p := ⟨w.heap.size + 1 + 1, 7, none⟩) (by show w.heap.size + 1 + 1 < _; omega)).trans k7
      obtain ⟨m0, m1, m2, m3, m4, m5, m6, m7⟩ := HCC
      simp only [set8] at k0 k1 k2 k3 k4 k5 k6 k7 m0 m1 m2 m3 m4 m5 m6 m7 hK9
      simp only [set8] at HB9
      obtain ⟨X0, hX⟩ : ∃ X, ((((((((((((((((W.setCell ⟨w.heap.size + 1 + 1, 0, none⟩ (.int .i32 (A 0))).setCell ⟨w.heap.size + 1 + 1, 1, none⟩ (.int .i32 (A 1))).setCell ⟨w.heap.size + 1 + 1, 2, none⟩ (.int .i32 (A 2))).setCell ⟨w.heap.size + 1 + 1, 3, none⟩ (.int .i32 (A 3))).setCell ⟨w.heap.size + 1 + 1, 4, none⟩ (.int .i32 (A 4))).setCell ⟨w.heap.size + 1 + 1, 5, none⟩ (.int .i32 (A 5))).setCell ⟨w.heap.size + 1 + 1, 6, none⟩ (.int .i32 (A 6))).setCell ⟨w.heap.size + 1 + 1, 7, none⟩ (.int .i32 (A 7))).setCell ⟨w.heap.size + 1 + 1 + 1, 0, none⟩ (.int .i32 (C 0))).setCell ⟨w.heap.size + 1 + 1 + 1, 1, none⟩ (.int .i32 (C 1))).setCell ⟨w.heap.size + 1 + 1 + 1, 2, none⟩ (.int .i32 (C 2))).setCell ⟨w.heap.size + 1 + 1 + 1, 3, none⟩ (.int .i32 (C 3))).setCell ⟨w.heap.size + 1 + 1 + 1, 4, none⟩ (.int .i32 (C 4))).setCell ⟨w.heap.size + 1 + 1 + 1, 5, none⟩ (.int .i32 (C 5))).setCell ⟨w.heap.size + 1 + 1 + 1, 6, none⟩ (.int .i32 (C 6))).setCell ⟨w.heap.size + 1 + 1 + 1, 7, none⟩ (.int .i32 (C 7))) = X := ⟨_, rfl⟩
      rw [hX] at k0 k1 k2 k3 k4 k5 k6 k7 m0 m1 m2 m3 m4 m5 m6 m7 hK9 HB9
      have HX := Lib.hid (congrArg World.drew hX)
      clear hX
      obtain ⟨X, hX⟩ : ∃ X, X = X0.drew := ⟨_, rfl⟩
      rw [← hX] at HX
      have HKA : Hid (X.cell? ⟨w.heap.size + 1 + 1, 0, none⟩ = some (.int .i32 (A 0)) ∧ X.cell? ⟨w.heap.size + 1 + 1, 1, none⟩ = some (.int .i32 (A 1)) ∧ X.cell? ⟨w.heap.size + 1 + 1, 2, none⟩ = some (.int .i32 (A 2)) ∧ X.cell? ⟨w.heap.size + 1 + 1, 3, none⟩ = some (.int .i32 (A 3)) ∧ X.cell? ⟨w.heap.size + 1 + 1, 4, none⟩ = some (.int .i32 (A 4)) ∧ X.cell? ⟨w.heap.size + 1 + 1, 5, none⟩ = some (.int .i32 (A 5)) ∧ X.cell? ⟨w.heap.size + 1 + 1, 6, none⟩ = some (.int .i32 (A 6)) ∧ X.cell? ⟨w.heap.size + 1 + 1, 7, none⟩ = some (.int .i32 (A 7))) := Lib.hid (by rw [hX]; exact ⟨k0, k1, k2, k3, k4, k5, k6, k7⟩)
      have HKC : Hid (X.cell? ⟨w.heap.size + 1 + 1 + 1, 0, none⟩ = some (.int .i32 (C 0)) ∧ X.cell? ⟨w.heap.size + 1 + 1 + 1, 1, none⟩ = some (.int .i32 (C 1)) ∧ X.cell? ⟨w.heap.size + 1 + 1 + 1, 2, none⟩ = some (.int .i32 (C 2)) ∧ X.cell? ⟨w.heap.size + 1 + 1 + 1, 3, none⟩ = some (.int .i32 (C 3)) ∧ X.cell? ⟨w.heap.size + 1 + 1 + 1, 4, none⟩ = some (.int .i32 (C 4)) ∧ X.cell? ⟨w.heap.size + 1 + 1 + 1, 5, none⟩ = some (.int .i32 (C 5)) ∧ X.cell? ⟨w.heap.size + 1 + 1 + 1, 6, none⟩ = some (.int .i32 (C 6)) ∧ X.cell? ⟨w.heap.size + 1 + 1 + 1, 7, none⟩ = some (.int .i32 (C 7))) := Lib.hid (by rw [hX]; exact ⟨m0, m1, m2, m3, m4, m5, m6, m7⟩)
      have HK9 : Hid (X.heap[D]? = some (.deferred (some []))) := Lib.hid (by rw [hX]; exact hK9)
      have HG9 := Lib.hid (grownBy_putObj' X D (.deferred none))
      have HR9 : Hid (∀ r, some D = some r → ∃ o : Obj, X.heap[r]? = some o ∧ o.isCells = false) := Lib.hid (fun r e => by cases e; exact ⟨_, HK9.out, rfl⟩)
      have HB10 : Hid (Below w.heap.size w X) := Lib.hid (by rw [hX]; exact HB9.out.drew)
      clear m0 m1 m2 m3 m4 m5 m6 m7 hX HB9
      clear hI hB hK e1 e2 hA hC B1 hK9 BC lt4 k0 k1 k2 k3 k4 k5 k6 k7
      go_wp2_with fail
      go_region
      all_goals
        go_wp2
        rw [HX.out]
        refine ⟨by simp, .inl ⟨_, _, rfl, run_takeDeferred HK9.out, ?_⟩⟩
        obtain ⟨k0, k1, k2, k3, k4, k5, k6, k7⟩ := HKA.out
        obtain ⟨m0, m1, m2, m3, m4, m5, m6, m7⟩ := HKC.out
        have k0 := cell_kept k0 HG9.out HR9.out
        have m0 := cell_kept m0 HG9.out HR9.out
        have k1 := cell_kept k1 HG9.out HR9.out
        have m1 := cell_kept m1 HG9.out HR9.out
        have k2 := cell_kept k2 HG9.out HR9.out
        have m2 := cell_kept m2 HG9.out HR9.out
        have k3 := cell_kept k3 HG9.out HR9.out
        have m3 := cell_kept m3 HG9.out HR9.out
        have k4 := cell_kept k4 HG9.out HR9.out
        have m4 := cell_kept m4 HG9.out HR9.out
        have k5 := cell_kept k5 HG9.out HR9.out
        have m5 := cell_kept m5 HG9.out HR9.out
        have k6 := cell_kept k6 HG9.out HR9.out
        have m6 := cell_kept m6 HG9.out HR9.out
        have k7 := cell_kept k7 HG9.out HR9.out
        have m7 := cell_kept m7 HG9.out HR9.out
        refine ⟨.tuple #[h32 A, h32 C, .int .i64 0], ?_, ?_, ?_⟩
        · simp [results, Try.f20, go_sem, k0, k1, k2, k3, k4, k5, k6, k7, m0, m1, m2, m3, m4, m5, m6, m7]
        · rw [hqe.out]
          have ee := HE.out
          simp only [h32]
          rw [(ee 0 (by omega)).1, (ee 1 (by omega)).1, (ee 2 (by omega)).1, (ee 3 (by omega)).1, (ee 4 (by omega)).1, (ee 5 (by omega)).1, (ee 6 (by omega)).1, (ee 7 (by omega)).1, (ee 0 (by omega)).2, (ee 1 (by omega)).2, (ee 2 (by omega)).2, (ee 3 (by omega)).2, (ee 4 (by omega)).2, (ee 5 (by omega)).2, (ee 6 (by omega)).2, (ee 7 (by omega)).2]
        · exact HB10.out.trans (belowK_b (w := w) (Nat.le_refl _) _ D _ _ (by omega) HK9.out rfl rfl)
    case stop =>
      rintro D c pre W hD hp hI hK
      exact hI.elim
end Go.Proofs.Ytekejhnhkifcfaa
