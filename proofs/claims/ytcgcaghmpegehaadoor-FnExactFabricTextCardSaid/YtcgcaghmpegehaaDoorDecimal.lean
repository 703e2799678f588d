/-
  No statement is proved here: the text of a number in the document's own text; condition: from 0 to 1000000000.
-/
import Derived.Test.YtcgcaghmpegehaaDoorTextG
import Derived.Test.YtcgcaghmpegehaaDoorBase
import Derived.IntWalk
import Derived.Laws.BytesString
import Derived.Lib.ItoaNum
import Derived.Lib.ItoaLen
import Derived.Laws.Concat
import Derived.Deep.RegionWith
import Derived.Deep.RegionHeld3
namespace Go.Proofs.YtcgcaghmpegehaaDoor
open Go.ChangeShapes Go.WideShapes Go.ChangeAt Go.RowKit

theorem one_byte (d : Int) (b : Nat) (w : World) (h : w.cell? ⟨b, 0, none⟩ = some (.int .u8 d)) :
    (convert 52 9 (.slice (some ⟨b, 0, none⟩) 1 1)).run Tryd.prog w = .ok (.string ⟨#[UInt8.ofNat d.toNat]⟩) w := by
  have hld : (loadCells ⟨b, 0, none⟩ 1).run Tryd.prog w = .ok ([d].map (Value.int .u8)).toArray w := by
    simp [loadCells, go_sem, h]
  rw [run_convert_bytes_string _ _ _ _ _ _ _ Tryd.underlying52 Tryd.underlying5 Tryd.underlying9, run_bytesToString _ _ _ _ [d] hld]
  rfl
theorem one_digit (r : Nat) {g : UInt8} (hg : g = UInt8.ofNat (48 + r)) (b : Nat) (w : World) (h : w.cell? ⟨b, 0, none⟩ = some (.int .u8 (48 + (r : Int)))) :
    (convert 52 9 (.slice (some ⟨b, 0, none⟩) 1 1)).run Tryd.prog w = .ok (.string ⟨#[g]⟩) w := by
  rw [hg, one_byte _ b w h, show ((48 : Int) + (r : Int)).toNat = 48 + r by omega]
theorem keepDigit {w w' wa : World} {v : Value} {t : TypeId} (hw : wa = w.alloc (.cells #[v] t) ∨ wa = (w.alloc (.cells #[v] t)).drew) (hB : Below wa.heap.size wa w') : w'.cell? ⟨w.heap.size, 0, none⟩ = some v := by
  rcases hw with rfl | rfl
  · exact kept hB (by simp) (by simp)
  · exact kept hB (by simp) (by simp)
theorem digit_facts (n : Nat) (hn : n ≤ 1000000000) : ∃ q r : Nat, q = n / 10 ∧ r = n % 10 ∧ (n : Int).tdiv 10 = (q : Int) ∧ IntKind.i64.wrap (q : Int) = (q : Int) ∧ (n : Int).tmod 10 = (r : Int) ∧ IntKind.i64.wrap (48 + (r : Int)) = 48 + (r : Int) ∧ IntKind.u8.wrap (48 + (r : Int)) = 48 + (r : Int) := by
  refine ⟨n / 10, n % 10, rfl, rfl, ?_, ?_, ?_, ?_, ?_⟩
  · rw [Int.tdiv_eq_ediv_of_nonneg (by omega)]
    omega
  · exact IntWalk.i64_in _ (by omega)
  · rw [Int.tmod_eq_emod_of_nonneg (by omega)]
    omega
  · exact IntWalk.i64_in _ (by omega)
  · exact IntWalk.u8_in _ (by omega)

set_option maxRecDepth 100000 in
set_option maxHeartbeats 2000000 in
theorem decimal_any (n : Nat) (hn : n ≤ 1000000000) (w : World) :
    Calls Tryd.prog 18 #[.int .i64 n] w fun e w' => e = .returned (.string ⟨(Lib.decDigits n).toArray⟩) ∧ Below w.heap.size w w' := by
  induction n using Nat.strongRecOn generalizing w with
  | _ n ih =>
    obtain ⟨q, r, hq, hr, e1, e2, e3, e4, e5⟩ := digit_facts n hn
    obtain ⟨g, hg⟩ : ∃ g, g = UInt8.ofNat (48 + r) := ⟨_, rfl⟩
    by_cases h : n < 10
    · rw [Lib.decDigits_one h]
      have h' : (n : Int) < 10 := by omega
      have hrn : r = n := by omega
      rw [hrn] at hg
      rw [← hg]
      have HG := Lib.hid hg
      rw [hrn] at e3 e4 e5
      have HN := Lib.hid hrn
      clear ih hq hr hg h hrn
      go_enter Tryd.func18, Tryd.ntmps18
      clear HN
      go_wp2_with fail
      rw [one_digit _ HG.out _ _ (by simp)]
      go_wp2_with fail
      go_ret
      exact ⟨rfl, (Below.refl _ _).alloc (Nat.le_refl _) _⟩
    · have h' : (10 : Int) ≤ (n : Int) := by omega
      have HI := Lib.hid fun wx => ih q (by omega) (by omega) wx
      have HS : Hid (Lib.decDigits n = Lib.decDigits q ++ [g]) := by
        rw [hg, hq, hr, Lib.decDigits, dif_neg h]
        exact rfl
      have hcv1 : ∀ wx : World, (convert 52 9 (.slice (some ⟨wx.heap.size, 0, none⟩) 1 1)).run Tryd.prog (wx.alloc (.cells #[.int .u8 (48 + (r : Int))] 5)) = .ok (.string ⟨#[g]⟩) (wx.alloc (.cells #[.int .u8 (48 + (r : Int))] 5)) := fun wx => one_digit _ hg _ _ (by simp)
      have hcv2 : ∀ wx : World, (convert 52 9 (.slice (some ⟨wx.heap.size, 0, none⟩) 1 1)).run Tryd.prog (wx.alloc (.cells #[.int .u8 (48 + (r : Int))] 5)).drew = .ok (.string ⟨#[g]⟩) (wx.alloc (.cells #[.int .u8 (48 + (r : Int))] 5)).drew := fun wx => one_digit _ hg _ _ (by simp)
      have hadd : ∀ wx : World, (Op.stringOp .add ⟨(Lib.decDigits q).toArray⟩ ⟨#[g]⟩).run Tryd.prog wx = .ok (.string ⟨(Lib.decDigits n).toArray⟩) wx := fun wx => by
        rw [HS.out]
        exact add_lists _ [g] (by have := dec_short q (by omega); omega) (by simp) wx
      have HG := Lib.hid hg
      clear ih hq hr h HS hg
      go_enter Tryd.func18, Tryd.ntmps18
      go_wp2_with fail
      go_region_with (go_at_call 18; refine (HI.out _).mono ?_; rintro e w' ⟨rfl, hB⟩; first | (refine withC (keepDigit (w := w) (v := .int .u8 (48 + (r : Int))) (t := 5) (.inl rfl) hB) ?_; intro hc3; have hcv3 := one_digit _ HG.out _ _ hc3) | (refine withC (keepDigit (w := w) (v := .int .u8 (48 + (r : Int))) (t := 5) (.inr rfl) hB) ?_; intro hc3; have hcv3 := one_digit _ HG.out _ _ hc3) | skip)
      · go_wp2_with fail
        go_ret
        exact ⟨rfl, (((Below.refl w.heap.size w).drew).trans hB).alloc hB.size _⟩
      · go_wp2_with fail
        go_ret
        exact ⟨rfl, (((Below.refl w.heap.size w).alloc (Nat.le_refl _) _).drew).trans (hB.mono (by simp))⟩
      · go_wp2_with fail
        go_ret
        exact ⟨rfl, (((Below.refl w.heap.size w).alloc (Nat.le_refl _) _).drew).trans (hB.mono (by simp))⟩
end Go.Proofs.YtcgcaghmpegehaaDoor
