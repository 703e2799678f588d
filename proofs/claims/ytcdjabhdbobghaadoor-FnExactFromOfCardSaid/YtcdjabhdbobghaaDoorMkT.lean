/-
  No statement is proved here: how a law marks texts and fabrics and looks at the marks; condition: at most 1048576 texts.
-/
import Derived.Test.YtcdjabhdbobghaaDoorStr0
import Derived.IntWalk
import Derived.Laws.BytesString
import Derived.Laws.Concat
import Derived.OneCell
namespace Go.Proofs.YtcdjabhdbobghaaDoor
open Go.ChangeShapes Go.WideShapes Go.ChangeAt Go.RowKit

theorem mk_byte (d : Int) (b : Nat) (w : World) (h : w.cell? ⟨b, 0, none⟩ = some (.int .u8 d)) :
    (convert 113 9 (.slice (some ⟨b, 0, none⟩) 1 1)).run Tryd.prog w = .ok (.string ⟨#[UInt8.ofNat d.toNat]⟩) w := by
  have hld : (loadCells ⟨b, 0, none⟩ 1).run Tryd.prog w = .ok ([d].map (Value.int .u8)).toArray w := by
    simp [loadCells, go_sem, h]
  rw [run_convert_bytes_string _ _ _ _ _ _ _ Tryd.underlying113 Tryd.underlying5 Tryd.underlying9, run_bytesToString _ _ _ _ [d] hld]
  rfl
theorem mk_digit (r : Nat) {g : UInt8} (hg : g = UInt8.ofNat (48 + r)) (b : Nat) (w : World) (h : w.cell? ⟨b, 0, none⟩ = some (.int .u8 (48 + (r : Int)))) :
    (convert 113 9 (.slice (some ⟨b, 0, none⟩) 1 1)).run Tryd.prog w = .ok (.string ⟨#[g]⟩) w := by
  rw [hg, mk_byte _ b w h, show ((48 : Int) + (r : Int)).toNat = 48 + r by omega]
theorem mk_facts (n : Nat) (hn : n ≤ 1000000000) : ∃ q r : Nat, q = n / 10 ∧ r = n % 10 ∧ (n : Int).tdiv 10 = (q : Int) ∧ IntKind.i64.wrap (q : Int) = (q : Int) ∧ (n : Int).tmod 10 = (r : Int) ∧ IntKind.i64.wrap (48 + (r : Int)) = 48 + (r : Int) ∧ IntKind.u8.wrap (48 + (r : Int)) = 48 + (r : Int) ∧ IntKind.i64.wrap (r : Int) = (r : Int) := by
  refine ⟨n / 10, n % 10, rfl, rfl, ?_, ?_, ?_, ?_, ?_, ?_⟩
  · rw [Int.tdiv_eq_ediv_of_nonneg (by omega)]
    omega
  · exact IntWalk.i64_in _ (by omega)
  · rw [Int.tmod_eq_emod_of_nonneg (by omega)]
    omega
  · exact IntWalk.i64_in _ (by omega)
  · exact IntWalk.u8_in _ (by omega)
  · exact IntWalk.i64_in _ (by omega)
theorem mk_add (x y : List UInt8) (hx : x.length ≤ 100000000) (hy : y.length ≤ 100000000) (w : World) : (Op.stringOp .add ⟨x.toArray⟩ ⟨y.toArray⟩).run Tryd.prog w = .ok (.string ⟨(x ++ y).toArray⟩) w := by
  rw [run_string_add_sum (P := Tryd.prog) w _ _ (by show x.toArray.size + y.toArray.size ≤ _; simp; omega)]
  rw [ByteArray.mk_append_mk]
/-- The digits of a mark, behind what stands there. -/
def dgs (j : Nat) (acc : List UInt8) : List UInt8 := if h : j = 0 then acc else dgs (j / 10) (UInt8.ofNat (48 + j % 10) :: acc)
termination_by j
decreasing_by omega
theorem dgs_zero (acc : List UInt8) : dgs 0 acc = acc := by rw [dgs, dif_pos rfl]
theorem dgs_step {j : Nat} (h : j ≠ 0) (acc : List UInt8) : dgs j acc = dgs (j / 10) (UInt8.ofNat (48 + j % 10) :: acc) := by rw [dgs, dif_neg h]
theorem dgs_len : ∀ (f j : Nat) (acc : List UInt8), j ≤ f → (dgs j acc).length ≤ acc.length + j
  | 0, j, acc, h => by rw [show j = 0 by omega, dgs_zero]; omega
  | f + 1, j, acc, h => by
    by_cases e : j = 0
    · rw [e, dgs_zero]; omega
    · rw [dgs_step e]
      have := dgs_len f (j / 10) (UInt8.ofNat (48 + j % 10) :: acc) (by omega)
      rw [List.length_cons] at this
      omega
/-- The text of a mark. -/
def mtx (j : Nat) : ByteArray := ⟨([109] ++ dgs j []).toArray⟩

set_option maxRecDepth 100000 in
set_option maxHeartbeats 4000000 in
theorem markText_any (n : Nat) (hn0 : 0 < n) (hn : n ≤ 10000000) (w : World) :
    Calls Tryd.prog 42 #[.int .i64 n] w fun e w' => e = .returned (.string (mtx n)) ∧ Below w.heap.size w w' := by
  obtain ⟨D, hD⟩ : ∃ D, D = dgs n [] := ⟨_, rfl⟩
  have HD := Lib.hid (show mtx n = ⟨([109] ++ D).toArray⟩ by rw [hD]; rfl)
  have HS := Lib.hid hD.symm
  obtain ⟨R, hR⟩ : ∃ R, R = mtx n := ⟨_, rfl⟩
  rw [← hR] at HD ⊢
  clear hR hD
  have hn1 : ¬ (n : Int) ≤ 0 := by omega
  go_enter Tryd.func42, Tryd.ntmps42
  go_wp2_with fail
  go_loopw [0, 3] (fun k out wr => ∃ (j : Nat) (acc : List UInt8), k = .int .i64 j ∧ out = .string ⟨acc.toArray⟩ ∧ j + acc.length ≤ n ∧ Hid (dgs j acc = D) ∧ Hid (Below w.heap.size w wr)) (fun k _ _ => (intOf k).toNat)
  case atStart => exact ⟨n, [], rfl, rfl, by simp, HS, Below.refl _ _⟩
  case round =>
    obtain ⟨j, acc, rfl, rfl, hl, hd, hB⟩ := hrel
    by_cases h0 : j = 0
    · subst h0
      have hadd : ∀ wx : World, (Op.stringOp .add ⟨#[109]⟩ ⟨acc.toArray⟩).run Tryd.prog wx = .ok (.string R) wx := fun wx => by
        have e : acc = D := (dgs_zero acc).symm.trans hd.out
        rw [HD.out, ← e]
        exact mk_add [109] acc (by simp) (by omega) wx
      clear hd
      go_wp2
      go_ret
      exact ⟨rfl, hB.out⟩
    · obtain ⟨q, r, hq, hr, e1, e2, e3, e4, e5, e6⟩ := mk_facts j (by omega)
      obtain ⟨g, hg⟩ : ∃ g, g = UInt8.ofNat (48 + r) := ⟨_, rfl⟩
      have hj : (0 : Int) < (j : Int) := by omega
      have hcv : ∀ wx : World, (convert 113 9 (.slice (some ⟨wx.heap.size, 0, none⟩) 1 1)).run Tryd.prog (wx.alloc (.cells #[.int .u8 (48 + (r : Int))] 5)) = .ok (.string ⟨#[g]⟩) (wx.alloc (.cells #[.int .u8 (48 + (r : Int))] 5)) := fun wx => mk_digit r hg _ _ (by simp)
      have hadd : ∀ wx : World, (Op.stringOp .add ⟨#[g]⟩ ⟨acc.toArray⟩).run Tryd.prog wx = .ok (.string ⟨(g :: acc).toArray⟩) wx := fun wx => mk_add [g] acc (by simp) (by omega) wx
      have HT : Hid (dgs q (g :: acc) = D) := by
        rw [hq, hg, hr, ← dgs_step h0]
        exact hd.out
      have HL := Lib.hid (show q + (g :: acc).length ≤ n by rw [List.length_cons]; omega)
      have HM := Lib.hid (show q < j by omega)
      have hqb : (q : Int) ≤ 10000000 := by omega
      have hrb : (r : Int) ≤ 9 := by omega
      clear hd hg hq hr
      go_wp2_with fail
      go_roundw
      case rel => exact ⟨q, g :: acc, rfl, rfl, HL.out, HT, Lib.hid (hB.out.alloc hB.out.size _)⟩
      case measure => simp [intOf]; have := HM.out; omega

/-- The marks from k on, and a list of which the first j are marked. -/
def mtl (k n : Nat) : List ByteArray := (List.range n).map fun j => mtx (k + j)
theorem mtl_length (k n : Nat) : (mtl k n).length = n := by simp [mtl]
def markedT (k : Nat) (zs : List ByteArray) (j : Nat) : List ByteArray := mtl k j ++ zs.drop j
theorem markedT_length (k : Nat) (zs : List ByteArray) (j : Nat) (hj : j ≤ zs.length) : (markedT k zs j).length = zs.length := by simp [markedT, mtl_length]; omega
theorem markedT_all (k : Nat) (zs : List ByteArray) : markedT k zs zs.length = mtl k zs.length := by simp [markedT]
theorem markedT_zero (k : Nat) (zs : List ByteArray) : markedT k zs 0 = zs := by simp [markedT, mtl]
theorem markedT_step (k : Nat) (zs : List ByteArray) (j : Nat) (hj : j < zs.length) : (markedT k zs j).set j (mtx (k + j)) = markedT k zs (j + 1) := by
  have e : zs.drop j = zs.getD j ByteArray.empty :: zs.drop (j + 1) := by
    rw [List.drop_eq_getElem_cons hj]
    simp [List.getD, List.getElem?_eq_getElem hj]
  rw [markedT, e, List.set_append, if_neg (by simp [mtl_length]), mtl_length, Nat.sub_self, List.set_cons_zero, markedT, mtl, mtl, List.range_succ, List.map_append]
  simp
theorem grown_trans2 {a b c : World} {row : Option Nat} (h : a.grownBy b row) (k : b.grownBy c row) : a.grownBy c row :=
  ⟨k.os.trans h.os, k.tape.trans h.tape, k.output.trans h.output, Nat.le_trans h.size k.size, fun i hi hne => (k.block i (Nat.lt_of_lt_of_le hi h.size) hne).trans (h.block i hi hne)⟩
theorem grown_of_below {a b : World} (h : Below a.heap.size a b) (row : Option Nat) : a.grownBy b row := ⟨h.os, h.tape, h.output, h.size, fun i hi _ => h.block i hi⟩

set_option maxRecDepth 100000 in
set_option maxHeartbeats 4000000 in
theorem markStrs_any (v : Value) (zs : List ByteArray) (base : Nat) (w : World) (k : Nat) (h : OwnT w base v zs) (hn : zs.length ≤ 2097152) (hk : 0 < k) (hk' : k ≤ 1000000) :
    Calls Tryd.prog 32 #[v, .int .i64 (k : Int)] w fun e w' => e = .returned (.int .i64 ((k : Int) + zs.length)) ∧ OwnT w' base v (mtl k zs.length) ∧ w.grownBy w' v.ownBlock := by
  rcases h.block with ⟨rfl, rfl⟩ | ⟨g, cap, rfl, hbg, hg, _, hc, hf⟩
  · go_enter Tryd.func32, Tryd.ntmps32
    go_wp2
    go_rounds 1
    go_ret
    exact ⟨by simp, World.ownsRow_nil _ _ _ _, World.grownBy.refl _ _⟩
  · clear hc hf
    obtain ⟨n, hln⟩ : ∃ n, n = zs.length := ⟨_, rfl⟩
    have HL := Lib.hid hln
    have hrow := h.row
    unfold OwnT
    rw [mtl_length, ← hln]
    rw [← hln] at hn hrow
    clear hln h
    have HFL := Lib.hid fun j (hj : j ≤ n) => markedT_length k zs j (by rw [← HL.out]; exact hj)
    have HST := Lib.hid fun j (hj : j < n) => markedT_step k zs j (by rw [← HL.out]; exact hj)
    have HMK := Lib.hid fun j (hj : j < n) wx => markText_any (k + j) (by omega) (by omega) wx
    have HW : Hid (w.ownsRow base 9 1 (.slice (some ⟨g, 0, none⟩) n cap) n ((markedT k zs 0).map Value.string)) := by rw [markedT_zero]; exact hrow
    clear hrow
    go_enter Tryd.func32, Tryd.ntmps32
    go_wp2
    go_loopw [1, 5] (fun kk i wr => ∃ j : Nat, j ≤ n ∧ i = .int .i64 j ∧ kk = .int .i64 ((k : Int) + j) ∧ Hid (wr.ownsRow base 9 1 (.slice (some ⟨g, 0, none⟩) n cap) n ((markedT k zs j).map Value.string)) ∧ Hid (w.grownBy wr (some g))) (fun _ i _ => n - (intOf i).toNat)
    case atStart => exact ⟨0, Nat.zero_le _, rfl, by go_num, HW, World.grownBy.refl _ _⟩
    case round =>
      obtain ⟨j, hj, rfl, rfl, hO, hG⟩ := hrel
      by_cases hlt : j < n
      · have HC := Lib.hid fun wx => HMK.out j hlt wx
        rw [show ((k + j : Nat) : Int) = (k : Int) + (j : Int) by omega] at HC
        have HST2 := Lib.hid (HST.out j hlt)
        have HFL2 := Lib.hid (HFL.out j hj)
        generalize mtx (k + j) = x at *
        go_wp2_with fail
        refine (HC.out _).mono ?_
        rintro e w3 ⟨rfl, hB⟩
        have O2 : Hid (w3.ownsRow base 9 1 (.slice (some ⟨g, 0, none⟩) n cap) n ((markedT k zs j).map Value.string)) := by
          refine ⟨hO.out.1, ?_⟩
          rcases hO.out.2 with h2 | ⟨g', cap', cur, hv, hg', hh, r⟩
          · exact .inl h2
          · exact .inr ⟨g', cap', cur, hv, hg', by rw [hB.block g' (lt_of_block hh)]; exact hh, r⟩
        have G2 := Lib.hid (grown_trans2 hG.out (grown_of_below hB (some g)))
        have c2 := (O2.out.cellAt j (by omega)).trans (cellT (by rw [HFL2.out, ← HL.out]; exact hlt))
        have f2 : w3.frozen? ⟨g, j, none⟩ = false := O2.out.frozenAt j
        clear hB hO hG
        go_wp2
        go_roundw
        case rel =>
          have h := O2.out.stored j (Value.string x)
          refine ⟨j + 1, by omega, by go_num, by go_num, ?_, Lib.hid (grown_trans2 G2.out h.2)⟩
          have h1 := h.1
          rw [← List.map_set, HST2.out] at h1
          exact Lib.hid h1
        case measure => simp [intOf]; omega
      · have hkn : j = n := by omega
        subst hkn
        have e : markedT k zs j = mtl k j := by rw [HL.out]; exact markedT_all k zs
        go_wp2
        go_ret
        refine ⟨rfl, ?_, hG.out⟩
        have h := hO.out
        rw [e] at h
        exact h

end Go.Proofs.YtcdjabhdbobghaaDoor
