/-
  No statement is proved here: holes that are compared, and StaysFor, in the document's own text and in the program; condition: the program's errors lie where its text lays them.
-/
import Derived.Test.YtcdjjijagibhlaaDoorHoZ
import Derived.Stop.BytesEq
namespace Go.Proofs.YtcdjjijagibhlaaDoor
open Go.ChangeShapes Go.WideShapes Go.ChangeAt Go.RowKit

def bytesOf (h : Nat → Int) : List UInt8 := [UInt8.ofNat (h 0).toNat, UInt8.ofNat (h 1).toNat, UInt8.ofNat (h 2).toNat, UInt8.ofNat (h 3).toNat, UInt8.ofNat (h 4).toNat, UInt8.ofNat (h 5).toNat, UInt8.ofNat (h 6).toNat, UInt8.ofNat (h 7).toNat]
def eq8 (g h : Nat → Int) : Bool := bytesOf g == bytesOf h
theorem cell_of {n : Int} (h : 0 ≤ n ∧ n ≤ 255) : Extern.Stop.cell (UInt8.ofNat n.toNat) = .int .u8 n := by
  have e : ((UInt8.ofNat n.toNat).toNat : Int) = n := by
    rw [UInt8.toNat_ofNat']
    omega
  show Value.int .u8 (((UInt8.ofNat n.toNat).toNat : Nat) : Int) = _
  rw [e]
theorem hv_bytes {h : Nat → Int} (h8 : Bytes8 h) : hv h = .agg ((bytesOf h).map Extern.Stop.cell).toArray := by
  simp only [bytesOf, List.map_cons, List.map_nil, cell_of (h8 0 (by omega)), cell_of (h8 1 (by omega)), cell_of (h8 2 (by omega)), cell_of (h8 3 (by omega)), cell_of (h8 4 (by omega)), cell_of (h8 5 (by omega)), cell_of (h8 6 (by omega)), cell_of (h8 7 (by omega))]
theorem eqH_in {g h : Nat → Int} (hg : Bytes8 g) (hh : Bytes8 h) (w : World) : (Op.equalIn 10000 23 (hv g) (hv h)).run Tryd.prog w = .ok (eq8 g h) w := by
  rw [hv_bytes hg, hv_bytes hh]
  exact run_equalIn_bytes w 9998 _ 5 8 Tryd.underlying23 Tryd.underlying5 (fun w => by kernel_rfl) _ _ rfl rfl
def stF (h : Nat → Int) (need : Int) : Bool × Int := if inB need 1 4 = true then (eq8 (weekF h need) h, 0) else (false, 2)
theorem stF_yes {h : Nat → Int} {need : Int} (e : inB need 1 4 = true) : stF h need = (eq8 (weekF h need) h, 0) := if_pos e
theorem stF_no {h : Nat → Int} {need : Int} (e : inB need 1 4 = false) : stF h need = (false, 2) := if_neg (by simp [e])
/-- The holes' box. -/
def HB1 (w w' : World) (h : Nat → Int) : Prop := w'.cell? ⟨w.heap.size, 0, none⟩ = some (.int .u8 (h 0)) ∧ w'.cell? ⟨w.heap.size, 1, none⟩ = some (.int .u8 (h 1)) ∧ w'.cell? ⟨w.heap.size, 2, none⟩ = some (.int .u8 (h 2)) ∧ w'.cell? ⟨w.heap.size, 3, none⟩ = some (.int .u8 (h 3)) ∧ w'.cell? ⟨w.heap.size, 4, none⟩ = some (.int .u8 (h 4)) ∧ w'.cell? ⟨w.heap.size, 5, none⟩ = some (.int .u8 (h 5)) ∧ w'.cell? ⟨w.heap.size, 6, none⟩ = some (.int .u8 (h 6)) ∧ w'.cell? ⟨w.heap.size, 7, none⟩ = some (.int .u8 (h 7)) ∧ Below w.heap.size w w'
theorem HB1.id {w w' : World} {h : Nat → Int} (H : w'.cell? ⟨w.heap.size, 0, none⟩ = some (.int .u8 (h 0)) ∧ w'.cell? ⟨w.heap.size, 1, none⟩ = some (.int .u8 (h 1)) ∧ w'.cell? ⟨w.heap.size, 2, none⟩ = some (.int .u8 (h 2)) ∧ w'.cell? ⟨w.heap.size, 3, none⟩ = some (.int .u8 (h 3)) ∧ w'.cell? ⟨w.heap.size, 4, none⟩ = some (.int .u8 (h 4)) ∧ w'.cell? ⟨w.heap.size, 5, none⟩ = some (.int .u8 (h 5)) ∧ w'.cell? ⟨w.heap.size, 6, none⟩ = some (.int .u8 (h 6)) ∧ w'.cell? ⟨w.heap.size, 7, none⟩ = some (.int .u8 (h 7)) ∧ Below w.heap.size w w') : HB1 w w' h := H
theorem HB1.bel {w w' : World} {h : Nat → Int} (H : HB1 w w' h) : Below w.heap.size w w' := H.2.2.2.2.2.2.2.2
theorem HB1.next {w w1 w2 : World} {h : Nat → Int} (H : HB1 w w1 h) (hB : Below w1.heap.size w1 w2) : HB1 w w2 h := by
  obtain ⟨a0, a1, a2, a3, a4, a5, a6, a7, z⟩ := H
  have k : ∀ {b o : Nat} {v : Value}, w1.cell? ⟨b, o, none⟩ = some v → w2.cell? ⟨b, o, none⟩ = some v := fun hc => kept hB (World.block_lt_of_cell? w1 _ hc) hc
  exact ⟨k a0, k a1, k a2, k a3, k a4, k a5, k a6, k a7, z.trans (hB.mono z.size)⟩
theorem HB1.alloc {w w1 : World} {h : Nat → Int} (H : HB1 w w1 h) (o : Obj) : HB1 w (w1.alloc o) h := H.next ((Below.refl _ _).alloc (Nat.le_refl _) _)
theorem HB1.made (w : World) (T : TypeId) (h : Nat → Int) : HB1 w (w.alloc (.cells #[.int .u8 (h 0), .int .u8 (h 1), .int .u8 (h 2), .int .u8 (h 3), .int .u8 (h 4), .int .u8 (h 5), .int .u8 (h 6), .int .u8 (h 7)] T)) h := by
  have H := hat_made w T h
  exact ⟨H 0 (by omega), H 1 (by omega), H 2 (by omega), H 3 (by omega), H 4 (by omega), H 5 (by omega), H 6 (by omega), H 7 (by omega), by go_grown⟩
theorem HB1.hat {w w' : World} {h : Nat → Int} (H : HB1 w w' h) : HAt w' w.heap.size h := fun j hj => by
  obtain ⟨a0, a1, a2, a3, a4, a5, a6, a7, _⟩ := H
  have : j = 0 ∨ j = 1 ∨ j = 2 ∨ j = 3 ∨ j = 4 ∨ j = 5 ∨ j = 6 ∨ j = 7 := by omega
  rcases this with rfl | rfl | rfl | rfl | rfl | rfl | rfl | rfl <;> assumption

set_option maxRecDepth 100000 in
set_option maxHeartbeats 8000000 in
theorem specStays_any (h : Nat → Int) (need : Int) (w : World) (h8 : Bytes8 h) :
    Calls Tryd.prog 15 #[hv h, .int .i64 need] w fun e w' => e = .returned (.tuple #[.bool (stF h need).1, .int .i64 (stF h need).2]) ∧ Below w.heap.size w w' := by
  have N1 := Lib.hid fun wx => l06Need_any need wx
  have X0 := Lib.hid (HB1.made w 23 h)
  cases hok : inB need 1 4 with
  | false =>
    rw [stF_no hok]
    rw [hok] at N1
    clear hok h8
    go_enter Tryd.func15, Tryd.ntmps15
    go_wp2_with fail
    refine (N1.out _).mono ?_
    rintro e w' ⟨rfl, rfl⟩
    go_wp2
    go_ret2
    exact ⟨rfl, X0.out.bel⟩
  | true =>
    rw [stF_yes hok]
    rw [hok] at N1
    have HC := Lib.hid fun wx (hx : HB1 w wx h) => l06Week_any w.heap.size h need wx h8 hx.hat
    have q4 := eqH_in (weekF_bytes h need) h8
    generalize eq8 (weekF h need) h = q at *
    generalize weekF h need = g at *
    clear hok h8
    go_enter Tryd.func15, Tryd.ntmps15
    go_wp2_with fail
    refine (N1.out _).mono ?_
    rintro e w' ⟨rfl, rfl⟩
    go_wp2_with fail
    go_region_held3 (fun w' => w'.cell? ⟨w.heap.size, 0, none⟩ = some (.int .u8 (h 0)) ∧ w'.cell? ⟨w.heap.size, 1, none⟩ = some (.int .u8 (h 1)) ∧ w'.cell? ⟨w.heap.size, 2, none⟩ = some (.int .u8 (h 2)) ∧ w'.cell? ⟨w.heap.size, 3, none⟩ = some (.int .u8 (h 3)) ∧ w'.cell? ⟨w.heap.size, 4, none⟩ = some (.int .u8 (h 4)) ∧ w'.cell? ⟨w.heap.size, 5, none⟩ = some (.int .u8 (h 5)) ∧ w'.cell? ⟨w.heap.size, 6, none⟩ = some (.int .u8 (h 6)) ∧ w'.cell? ⟨w.heap.size, 7, none⟩ = some (.int .u8 (h 7)) ∧ Below w.heap.size w w')
      (first | assumption | exact X0.out | exact X0.out.next ((Below.refl _ _).drew) | (refine HB1.next ?_ hB; assumption))
      (first | (go_at_call 24; refine (HC.out _ (by assumption)).mono ?_; rintro e w' ⟨rfl, hB⟩))
    have E := Lib.hid (HB1.id (w := w) (h := h) (by assumption)).bel
    go_wp2
    go_ret2
    exact ⟨rfl, E.out⟩

set_option maxRecDepth 100000 in
set_option maxHeartbeats 8000000 in
theorem implStays_any (p : Nat → Addr) (h : Nat → Int) (need : Int) (w : World) (hs : Sent w p) (h8 : Bytes8 h) :
    Calls Tryd.prog 16 #[hv h, .int .i64 need] w fun e w' => e = .returned (.tuple #[.bool (stF h need).1, .int .i64 (stF h need).2]) ∧ Below w.heap.size w w' := by
  have HS := Lib.hid hs
  have X0 := Lib.hid (HB1.made w 23 h)
  have N1 := Lib.hid fun wx => isNeed_any need wx
  have C := Lib.hid fun b cap wx hx h0 => check1_any p b cap need 1 4 wx hx h0
  have q1 := neqNil_err
  have q2 := neqNil_nil
  clear hs
  cases hok : inB need 1 4 with
  | false =>
    rw [stF_no hok]
    rw [hok, errIn_no] at C
    have HC := Lib.hid fun wx hx => codeOf_err (p := p) 1 (by omega) wx hx
    clear hok h8
    go_enter Tryd.func16, Tryd.ntmps16
    go_wp2_with fail
    refine (N1.out _).mono ?_
    rintro e w1 ⟨rfl, hB⟩
    have X1 := Lib.hid ((X0.out.next hB).alloc (.cells #[.iface 46 (.agg #[.int .i64 need, .int .i64 1, .int .i64 4])] 66))
    clear hB
    go_wp2_with fail
    refine (C.out _ _ _ (HS.out.below X1.out.bel) (by simp [go_sem])).mono ?_
    rintro e w2 ⟨rfl, hB⟩
    have X2 := Lib.hid (X1.out.next hB)
    clear hB
    go_wp2_with fail
    refine (HC.out _ (HS.out.below X2.out.bel)).mono ?_
    rintro e w' ⟨rfl, rfl⟩
    go_wp2
    go_ret2
    exact ⟨rfl, X2.out.bel⟩
  | true =>
    rw [stF_yes hok]
    rw [hok, errIn_yes] at C
    have HC := Lib.hid fun wx => weekLater_any h need wx h8
    have q4 := eqH_in (weekF_bytes h need) h8
    generalize eq8 (weekF h need) h = q at *
    generalize weekF h need = g at *
    clear hok h8
    go_enter Tryd.func16, Tryd.ntmps16
    go_wp2_with fail
    refine (N1.out _).mono ?_
    rintro e w1 ⟨rfl, hB⟩
    have X1 := Lib.hid ((X0.out.next hB).alloc (.cells #[.iface 46 (.agg #[.int .i64 need, .int .i64 1, .int .i64 4])] 66))
    clear hB
    go_wp2_with fail
    refine (C.out _ _ _ (HS.out.below X1.out.bel) (by simp [go_sem])).mono ?_
    rintro e w2 ⟨rfl, hB⟩
    have X2 := Lib.hid (X1.out.next hB)
    clear hB
    go_wp2_with fail
    go_region_held3 (fun w' => w'.cell? ⟨w.heap.size, 0, none⟩ = some (.int .u8 (h 0)) ∧ w'.cell? ⟨w.heap.size, 1, none⟩ = some (.int .u8 (h 1)) ∧ w'.cell? ⟨w.heap.size, 2, none⟩ = some (.int .u8 (h 2)) ∧ w'.cell? ⟨w.heap.size, 3, none⟩ = some (.int .u8 (h 3)) ∧ w'.cell? ⟨w.heap.size, 4, none⟩ = some (.int .u8 (h 4)) ∧ w'.cell? ⟨w.heap.size, 5, none⟩ = some (.int .u8 (h 5)) ∧ w'.cell? ⟨w.heap.size, 6, none⟩ = some (.int .u8 (h 6)) ∧ w'.cell? ⟨w.heap.size, 7, none⟩ = some (.int .u8 (h 7)) ∧ Below w.heap.size w w')
      (first | assumption | exact X2.out | exact X2.out.next ((Below.refl _ _).drew) | (refine HB1.next ?_ hB; assumption))
      (first | (go_at_call 31; refine (HC.out _).mono ?_; rintro e w' ⟨rfl, hB⟩))
    have E := Lib.hid (HB1.id (w := w) (h := h) (by assumption)).bel
    go_wp2
    go_ret2
    exact ⟨rfl, E.out⟩
end Go.Proofs.YtcdjjijagibhlaaDoor
