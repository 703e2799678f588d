/-
  Proved here: the law on MayWind answers true, for all arguments; no condition.
-/
import Derived.Test.YtibkocbfcdddfaaMayI
import Derived.Test.YtibkocbfcdddfaaOpenM
import Derived.Test.YtibkocbfcdddfaaSnS
import Derived.Deep.RegionHeld3
namespace Go.Proofs.Ytibkocbfcdddfaa
open Go.ChangeShapes Go.WideShapes Go.ChangeAt Go.RowKit

theorem openSt {w : World} {r : Reach} {base : Nat} {v : Value} (h : Value.okWide Try.prog w r base 36 v) : ∃ (a : Int) (d : Nat), v = .agg #[.int .i16 a, .int .u8 d] ∧ IsSt (a, (d : Int)) := by
  obtain ⟨vs, rfl, hc⟩ := open_cells h (by kernel_rfl) (ts := [34, 5]) (ks := [.i16, .u8]) (by kernel_rfl) (by kernel_rfl) (by kernel_rfl)
  obtain ⟨a, _, rfl, ha, b, _, rfl, hb, rfl⟩ := hc
  have h1 : -32768 ≤ a ∧ a ≤ 32767 := ha
  have h2 : 0 ≤ b ∧ b ≤ 255 := hb
  obtain ⟨d, rfl⟩ : ∃ d : Nat, b = (d : Int) := ⟨b.toNat, by omega⟩
  exact ⟨a, d, rfl, h1, h2⟩

set_option linter.unusedVariables false in
set_option maxRecDepth 100000 in
set_option maxHeartbeats 20000000 in
theorem mayWind_walk {H : Type} {enc : TypeId × Value → H} (w : World) (base : Nat)
    (v0 : Value) (d0 : DataW H) (p0 : List MemPlace) (o0 : Value.okWide Try.prog w .any base 29 v0) (k0 : DataW.Trod enc Try.prog w 0 (fun _ => true) true 29 v0 d0 p0)
    (v1 : Value) (d1 : DataW H) (p1 : List MemPlace) (o1 : Value.okWide Try.prog w .any base 36 v1) (k1 : DataW.Trod enc Try.prog w 0 (fun _ => true) true 36 v1 d1 p1)
    (v2 : Value) (d2 : DataW H) (p2 : List MemPlace) (o2 : Value.okWide Try.prog w .any base 36 v2) (k2 : DataW.Trod enc Try.prog w 0 (fun _ => true) true 36 v2 d2 p2) :
    Calls Try.prog 5 #[v0, v1, v2] w fun e w' => e = .returned (.bool true) ∧ Below w.heap.size w w' := by
  obtain ⟨m, rfl, h8⟩ := open_meets o0
  obtain ⟨a1, da, rfl, ha⟩ := openSt o1
  obtain ⟨b1, db, rfl, hb⟩ := openSt o2
  clear o0 k0 o1 k1 o2 k2
  have HM := Lib.hid fun wx => toMeets_any m wx
  have HTa := Lib.hid fun wx => toStrand_any a1 (da : Int) wx
  have HTb := Lib.hid fun wx => toStrand_any b1 (db : Int) wx
  have HS := Lib.hid fun wx => specMay_any m a1 b1 da db wx h8 ha hb
  have HI := Lib.hid fun wx => implMay_any m a1 b1 da db wx h8 ha hb
  have HH1 := Lib.hid (held3_made w 29 36 m a1 b1 da db)
  generalize (mayF m a1 b1 da db).1 = r at *
  generalize (mayF m a1 b1 da db).2 = k at *
  have e1 : (r == r) = true := by simp
  have e2 : (k != k) = false := by simp
  clear h8 ha hb
  unfold mv at *
  go_enter Try.func5, Try.ntmps5
  go_wp2_with fail
  go_region_held3 (fun w' => w'.cell? ⟨w.heap.size, 0, none⟩ = some (.int .u8 (m 0)) ∧ w'.cell? ⟨w.heap.size, 1, none⟩ = some (.int .u8 (m 1)) ∧ w'.cell? ⟨w.heap.size, 2, none⟩ = some (.int .u8 (m 2)) ∧ w'.cell? ⟨w.heap.size, 3, none⟩ = some (.int .u8 (m 3)) ∧ w'.cell? ⟨w.heap.size, 4, none⟩ = some (.int .u8 (m 4)) ∧ w'.cell? ⟨w.heap.size, 5, none⟩ = some (.int .u8 (m 5)) ∧ w'.cell? ⟨w.heap.size + 1, 0, none⟩ = some (.int .i16 a1) ∧ w'.cell? ⟨w.heap.size + 1, 1, none⟩ = some (.int .u8 da) ∧ w'.cell? ⟨w.heap.size + 2, 0, none⟩ = some (.int .i16 b1) ∧ w'.cell? ⟨w.heap.size + 2, 1, none⟩ = some (.int .u8 db) ∧ Below w.heap.size w w' ∧ w.heap.size + 2 < w'.heap.size)
    (first | assumption | exact held3_raw (held3_drew HH1.out) | (refine held3_next ?_ hB; assumption))
    (first | (go_at_call 13; refine (HM.out _).mono ?_; rintro e w' ⟨rfl, hB⟩) | (go_at_call_of 16 (Value.agg #[.int .i16 a1, .int .u8 da]); refine (HTa.out _).mono ?_; rintro e w' ⟨rfl, hB⟩) | (go_at_call_of 16 (Value.agg #[.int .i16 b1, .int .u8 db]); refine (HTb.out _).mono ?_; rintro e w' ⟨rfl, hB⟩) | (go_at_call 15; refine (HS.out _).mono ?_; rintro e w' ⟨rfl, hB⟩))
  have HH2 := Lib.hid (held3_id (w := w) (m := m) (a1 := a1) (b1 := b1) (da := da) (db := db) (by assumption))
  go_wp2_with fail
  go_region_held3 (fun w' => w'.cell? ⟨w.heap.size, 0, none⟩ = some (.int .u8 (m 0)) ∧ w'.cell? ⟨w.heap.size, 1, none⟩ = some (.int .u8 (m 1)) ∧ w'.cell? ⟨w.heap.size, 2, none⟩ = some (.int .u8 (m 2)) ∧ w'.cell? ⟨w.heap.size, 3, none⟩ = some (.int .u8 (m 3)) ∧ w'.cell? ⟨w.heap.size, 4, none⟩ = some (.int .u8 (m 4)) ∧ w'.cell? ⟨w.heap.size, 5, none⟩ = some (.int .u8 (m 5)) ∧ w'.cell? ⟨w.heap.size + 1, 0, none⟩ = some (.int .i16 a1) ∧ w'.cell? ⟨w.heap.size + 1, 1, none⟩ = some (.int .u8 da) ∧ w'.cell? ⟨w.heap.size + 2, 0, none⟩ = some (.int .i16 b1) ∧ w'.cell? ⟨w.heap.size + 2, 1, none⟩ = some (.int .u8 db) ∧ Below w.heap.size w w' ∧ w.heap.size + 2 < w'.heap.size)
    (first | assumption | exact held3_raw (held3_drew HH2.out) | (refine held3_next ?_ hB; assumption))
    (first | (go_at_call 13; refine (HM.out _).mono ?_; rintro e w' ⟨rfl, hB⟩) | (go_at_call_of 16 (Value.agg #[.int .i16 a1, .int .u8 da]); refine (HTa.out _).mono ?_; rintro e w' ⟨rfl, hB⟩) | (go_at_call_of 16 (Value.agg #[.int .i16 b1, .int .u8 db]); refine (HTb.out _).mono ?_; rintro e w' ⟨rfl, hB⟩) | (go_at_call 17; refine (HI.out _).mono ?_; rintro e w' ⟨rfl, hB⟩))
  have HE := Lib.hid (held3_id (w := w) (m := m) (a1 := a1) (b1 := b1) (da := da) (db := db) (by assumption))
  go_wp2
  go_ret
  exact ⟨rfl, HE.out.2.2.2.2.2.2.2.2.2.2.1⟩
end Go.Proofs.Ytibkocbfcdddfaa
