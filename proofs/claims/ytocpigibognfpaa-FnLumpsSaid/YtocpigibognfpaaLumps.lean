/-
  No statement is proved here: which stripes of a web are lumps, as the document's own text and the program tell it; condition: the web is valid.
-/
import Derived.Test.YtocpigibognfpaaOut
import Derived.Deep.QuietTactic
namespace Go.Proofs.Ytocpigibognfpaa
open Go.ChangeShapes Go.WideShapes Go.ChangeAt Go.RowKit

/-- Whether the stripe k is a lump. -/
def lumpB (zs : List Int) (t : Int) (k : Nat) : Bool := decide (t * zs.sum < zs.getD k 0 * (zs.length : Int))
/-- The lumps among the first k stripes. -/
def lumpsTo (zs : List Int) (t : Int) : Nat → List Int
  | 0 => []
  | k + 1 => if lumpB zs t k = true then lumpsTo zs t k ++ [(k : Int)] else lumpsTo zs t k
theorem lumpsTo_length (zs : List Int) (t : Int) : ∀ k, (lumpsTo zs t k).length ≤ k
  | 0 => Nat.le_refl _
  | k + 1 => by
    have ih := lumpsTo_length zs t k
    unfold lumpsTo
    split
    · simp; omega
    · omega
theorem lumpsTo_yes (zs : List Int) (t : Int) (k : Nat) (h : t * zs.sum < zs.getD k 0 * (zs.length : Int)) : lumpsTo zs t (k + 1) = lumpsTo zs t k ++ [(k : Int)] := if_pos (decide_eq_true h)
theorem lumpsTo_no (zs : List Int) (t : Int) (k : Nat) (h : ¬ t * zs.sum < zs.getD k 0 * (zs.length : Int)) : lumpsTo zs t (k + 1) = lumpsTo zs t k := if_neg (by simpa [lumpB] using h)

attribute [local go_sem ↓] Go.wp_at_zero Go.wp_at_succ

set_option maxRecDepth 100000 in
set_option maxHeartbeats 2000000 in
theorem isLump_any (v : Value) (zs : List Int) (k : Nat) (t : Int) (w : World) (h : Ints w v zs) (hok : okW zs = true) (hk : k < zs.length) (ht : 1 ≤ t) (ht' : t ≤ 12) :
    Calls Try.prog 29 #[v, .int .i64 k, .int .i64 t] w fun e w' => e = .returned (.bool (lumpB zs t k)) ∧ Below w.heap.size w w' := by
  have hl := okW_len hok
  have hu := upTo_mono (okW_up hok) (show (10000 : Int) ≤ 1000000 by omega)
  have hs := sum_bd_all hu
  have hz := okW_get hok k hk
  have HS := Lib.hid fun wx hx => sumOf_any v zs wx hx (by omega) hu
  have hI := Lib.hid fun nd => h.below (bdN w nd)
  obtain ⟨b1, o1, c1, rfl, hc1⟩ := h.pos (by omega)
  have c1 := hc1 k hk
  unfold lumpB
  obtain ⟨z, hzz⟩ : ∃ z, z = zs.getD k 0 := ⟨_, rfl⟩
  obtain ⟨S, hS⟩ : ∃ S, S = zs.sum := ⟨_, rfl⟩
  rw [← hzz] at c1 hz ⊢
  rw [← hS] at HS hs ⊢
  obtain ⟨n, hln⟩ : ∃ n, n = zs.length := ⟨_, rfl⟩
  rw [← hln] at HS hI hl hs hk ⊢
  clear hzz hS hln h hc1 hok hu
  have hm1 := mulbd hz.1 hz.2 (show (0 : Int) ≤ (n : Int) by omega) (by omega)
  have hm2 := mulbd2 (s := S) (n := t) (by omega) (by omega) (by omega) (by omega)
  go_enter Try.func29, Try.ntmps29
  have e1 : IntKind.i64.wrap (z * (n : Int)) = z * (n : Int) := IntWalk.i64_in _ (by omega)
  have e2 : IntKind.i64.wrap (t * S) = t * S := IntWalk.i64_in _ (by omega)
  go_wp2_with fail
  go_quiet ((go_at_call 38; exact Calls.quiet_of_same ((HS.out _ (hI.out _)).mono fun _ _ ⟨he, hw⟩ => ⟨he, hw.symm⟩)))
  go_wp2_with fail
  go_ret
  exact ⟨rfl, bdN _ _⟩

theorem one_news (w : World) (a : Value) (t : TypeId) : ∀ j u, (#[a] : Array Value).toList[j]? = some u → (w.alloc (.cells #[a] t)).cell? ((⟨w.heap.size, 0, none⟩ : Addr).add j) = some u := World.news_of_block (heap_alloc_new w _)

set_option maxRecDepth 100000 in
set_option maxHeartbeats 2000000 in
theorem l02Lumps_any (v : Value) (zs : List Int) (t : Int) (w : World) (h : Ints w v zs) (hok : okW zs = true) (ht : 1 ≤ t) (ht' : t ≤ 12) :
    Calls Try.prog 32 #[v, .int .i64 t] w fun e w' => ∃ r, e = .returned r ∧ Own w' w.heap.size r (lumpsTo zs t zs.length) ∧ Below w.heap.size w w' := by
  obtain ⟨i0, hi, hz0, hz1, hz2⟩ := info_parts info64
  have hl := okW_len hok
  have hu := upTo_mono (okW_up hok) (show (10000 : Int) ≤ 1000000 by omega)
  have hs := sum_bd_all hu
  have HS := Lib.hid fun wx hx => l02Total_any v zs wx hx (by omega) hu
  have hI := Lib.hid fun (o : Obj) => h.below ((Below.refl w.heap.size w).alloc (Nat.le_refl _) o)
  have hbw0 := h.blk (by omega)
  obtain ⟨b1, o1, c1, rfl, hc1⟩ := h.pos (by omega)
  have hbw : b1 < w.heap.size := hbw0 b1 o1 none _ _ rfl
  have U1 := Lib.hid (lumpsTo_length zs t)
  have U2 := Lib.hid (lumpsTo_yes zs t)
  have U3 := Lib.hid (lumpsTo_no zs t)
  have U4 := Lib.hid (fun k hk => okW_get hok k hk)
  clear h hbw0 hok hu
  obtain ⟨n, hln⟩ : ∃ n, n = zs.length := ⟨_, rfl⟩
  rw [← hln] at U2 U3 U4 HS hI hc1 hl hs ⊢
  have HC := Lib.hid hc1
  clear hc1 hln
  obtain ⟨S, hS⟩ : ∃ S, S = zs.sum := ⟨_, rfl⟩
  rw [← hS] at HS hs U2 U3
  clear hS
  have hm2 := mulbd2 (s := S) (n := t) (by omega) (by omega) (by omega) (by omega)
  obtain ⟨B, hBe⟩ : ∃ B, B = w.heap.size := ⟨_, rfl⟩
  have HB := Lib.hid hBe
  have hst0 : (w.alloc (.cells #[] 2)).ownsRow B 2 1 (.slice (some ⟨w.heap.size, 0, none⟩) 0 0) (lumpsTo zs t 0).length ((lumpsTo zs t 0).map (Value.int .i64)) := World.ownsRow_made w #[] 0 (by omega) (by decide) rfl
  have hst1 : Below B w (w.alloc (.cells #[] 2)) := (Below.refl _ _).alloc (by omega) _
  have S0 := Lib.hid hst0
  have S1 := Lib.hid hst1
  rw [← hBe] at hbw ⊢
  clear hst0 hst1 hBe
  go_enter Try.func32, Try.ntmps32
  go_wp2_with fail
  refine (HS.out _ (hI.out _)).mono ?_
  rintro e w' ⟨rfl, rfl⟩
  go_wp2_with fail
  go_loopw [5, 7] (fun v i wr => ∃ (k : Nat) (u : Value), k ≤ n ∧ i = .int .i64 k ∧ u = v ∧ Hid (wr.ownsRow B 2 1 v (lumpsTo zs t k).length ((lumpsTo zs t k).map (Value.int .i64))) ∧ Hid (Below B w wr)) (fun _ i _ => n - (intOf i).toNat)
  case atStart => exact ⟨0, _, Nat.zero_le _, rfl, rfl, S0, S1⟩
  case round =>
    clear S0 S1
    obtain ⟨k, v, hk, rfl, rfl, hO, hE⟩ := hrel
    by_cases hlt : k < n
    · have c1 : wr.cell? ⟨b1, o1 + k, none⟩ = some (.int .i64 (zs.getD k 0)) := (hE.out.cell (p := ⟨b1, o1 + k, none⟩) hbw).trans (HC.out k hlt)
      have u4 := U4.out k hlt
      have u1 := U1.out k
      have u2 := U2.out k
      have u3 := U3.out k
      obtain ⟨z, hz⟩ : ∃ z, z = zs.getD k 0 := ⟨_, rfl⟩
      rw [← hz] at c1 u4 u2 u3
      clear hz
      have hm1 := mulbd u4.1 u4.2 (show (0 : Int) ≤ (n : Int) by omega) (by omega)
      have hszB : B ≤ wr.heap.size := by have := hE.out.size; rw [HB.out]; exact this
      by_cases hg : t * S < z * (n : Int)
      · have HU := Lib.hid (u2 hg)
        clear u2 u3
        go_wp2_with (first
          | (at_builtin; refine wpList_append_lies _ rfl _ _ _ rfl B 2 i0 (.int .i64 0) 1 8 Try.underlying24 hi hz0 hz1 hz2 rfl (by omega) v (lumpsTo zs t k).length _ rfl (hO.out.alloc _) ⟨wr.heap.size, 0, none⟩ 1 1 _ rfl rfl (World.news_of_block (heap_alloc_new wr _)) (one_one _) (by omega) (by unfold maxLen; omega) (by omega) (by simp; omega) (wr.heap.size + 1) (by simp) ?_; intro gg cap w1 hown1 hgrow hat hlt2)
          | go_in)
        have hE2 := hE.out.grown (grown_alloc hgrow) hszB (fun j hj => (hO.out.lt j hj).1)
        have HO2 : Hid (w1.ownsRow B 2 1 (.slice (some ⟨gg, 0, none⟩) ((lumpsTo zs t k).length + 1) cap) (lumpsTo zs t (k + 1)).length ((lumpsTo zs t (k + 1)).map (Value.int .i64))) := by
          rw [HU.out, List.map_append, List.length_append]
          exact hown1
        clear hgrow hown1 hat hlt2
        go_roundw
        case rel => exact ⟨k + 1, _, by omega, by go_num, rfl, HO2, hE2⟩
        case measure => simp [intOf]; omega
      · have HU := Lib.hid (u3 (by omega))
        clear u2 u3
        go_wp2_with fail
        go_roundw
        case rel => exact ⟨k + 1, _, by omega, by go_num, rfl, by rw [HU.out]; exact hO, hE⟩
        case measure => simp [intOf]; omega
    · have hkn : k = n := by omega
      subst hkn
      go_wp2_with fail
      go_ret
      exact ⟨_, rfl, hO.out, hE.out⟩
end Go.Proofs.Ytocpigibognfpaa
