/-
  No statement is proved here: what DrawOut answers, in the program and in the document's own text; condition: at most 1048576 stripes.
-/
import Derived.Test.YtaccoonhbilgdaaDrawn
namespace Go.Proofs.Ytaccoonhbilgdaa
open Go.ChangeShapes Go.WideShapes Go.ChangeAt Go.RowKit

/-- What DrawOut answers. -/
def drawF (zs : List Int) (s : Int) : List Int × Int := if inB (zs.length : Int) 1 6 && (decide (s = 2 * (zs.length : Int)) && upTo zs 20000) then (outD zs, 0) else ([], 2)
theorem drawF_len (zs : List Int) (s : Int) : (drawF zs s).1.length ≤ 2097152 := by
  unfold drawF
  split
  · rename_i h
    simp only [Bool.and_eq_true] at h
    have := inB_of h.1
    show (outD zs).length ≤ 2097152
    rw [outD_length]
    omega
  · simp

set_option maxRecDepth 100000 in
set_option maxHeartbeats 1000000 in
theorem specDraw_any (v : Value) (zs : List Int) (s : Int) (w : World) (h : Ints w v zs) (hn : zs.length ≤ 1048576) :
    Calls Try.prog 34 #[v, .int .i64 s] w fun e w' => ∃ r, e = .returned (.tuple #[r, .int .i64 (drawF zs s).2]) ∧ Own w' w.heap.size r (drawF zs s).1 ∧ Below w.heap.size w w' := by
  have hin := in_any (zs.length : Int) 1 6 w
  cases h1 : inB (zs.length : Int) 1 6 with
  | false =>
    have hF : drawF zs s = ([], 2) := by simp [drawF, h1]
    rw [hF]
    rw [h1] at hin
    have HI := Lib.hid hin
    obtain ⟨a1, c1, rfl⟩ := h.len
    clear hF hin h h1
    obtain ⟨n, hln⟩ : ∃ n, n = zs.length := ⟨_, rfl⟩
    rw [← hln] at HI hn ⊢
    clear hln
    go_enter Try.func34, Try.ntmps34
    go_wp2_with fail
    refine HI.out.mono ?_
    rintro e w' ⟨rfl, rfl⟩
    go_wp2_with fail
    go_loop [6, 7] (fun f i => ∃ k : Nat, k ≤ n ∧ i = .int .i64 k ∧ f = .bool false) (fun _ i => n - (intOf i).toNat)
    case atStart => exact ⟨0, Nat.zero_le _, rfl, rfl⟩
    case round =>
      obtain ⟨k, hk, rfl, rfl⟩ := hrel
      by_cases hlt : k < n
      · go_wp2_with fail
        go_round
        case rel => exact ⟨k + 1, by omega, by go_num, rfl⟩
        case measure => simp [intOf]; omega
      · go_wp2_with fail
        go_returns
        exact ⟨_, rfl, World.ownsRow_made w #[] 0 (Nat.le_refl _) (by decide) rfl, (Below.refl _ _).alloc (Nat.le_refl _) _⟩
  | true =>
    have hb := inB_of h1
    by_cases hs : s = 2 * (zs.length : Int)
    · rw [h1] at hin
      have HI := Lib.hid hin
      have hF : drawF zs s = if upTo zs 20000 = true then (outD zs, 0) else ([], 2) := by simp [drawF, h1, hs]
      obtain ⟨RF, hRF⟩ : ∃ RF, RF = drawF zs s := ⟨_, rfl⟩
      rw [← hRF]
      have HRF := Lib.hid (hRF.trans hF)
      clear hRF
      have HO := Lib.hid fun (hu : upTo zs 20000 = true) wx hx => l02Out_any v zs wx hx hn hu
      have hI := Lib.hid h
      obtain ⟨b1, o1, c1, rfl, hc1⟩ := h.pos (by omega)
      have U1 := Lib.hid (upTo_step zs 20000)
      have U3 := Lib.hid (upTo_all zs 20000)
      have hsb : (s == 2 * (zs.length : Int)) = true := by simp [hs]
      clear hF hin h h1
      obtain ⟨n, hln⟩ : ∃ n, n = zs.length := ⟨_, rfl⟩
      rw [← hln] at HI HO hI U1 U3 hc1 hn hb hsb hs ⊢
      have HC := Lib.hid hc1
      clear hln hc1 hs
      go_enter Try.func34, Try.ntmps34
      go_wp2_with fail
      refine HI.out.mono ?_
      rintro e w' ⟨rfl, rfl⟩
      go_wp2_with fail
      go_loop [6, 7] (fun f i => ∃ (k : Nat) (fb : Bool), k ≤ n ∧ i = .int .i64 k ∧ f = .bool fb ∧ Hid (upTo (zs.take k) 20000 = fb)) (fun _ i => n - (intOf i).toNat)
      case atStart => exact ⟨0, true, Nat.zero_le _, rfl, rfl, by rfl⟩
      case round =>
        obtain ⟨k, fb, hk, rfl, rfl, hf⟩ := hrel
        by_cases hlt : k < n
        · have u1 := U1.out k hlt
          rw [hf.out] at u1
          cases fb with
          | false =>
            have HE := Lib.hid u1
            clear u1
            go_wp2_with fail
            go_round
            case rel => exact ⟨k + 1, false, by omega, by go_num, rfl, by rw [HE.out]; rfl⟩
            case measure => simp [intOf]; omega
          | true =>
            have c1 : w.cell? ⟨b1, o1 + k, none⟩ = some (.int .i64 (zs.getD k 0)) := HC.out k hlt
            obtain ⟨z, hz⟩ : ∃ z, z = zs.getD k 0 := ⟨_, rfl⟩
            rw [← hz] at c1 u1
            have HE := Lib.hid u1
            clear u1 hz
            go_wp2_with fail
            refine (in_any _ _ _ _).mono ?_
            rintro e w' ⟨rfl, rfl⟩
            obtain ⟨fb, hfb⟩ : ∃ fb, inB z 0 20000 = fb := ⟨_, rfl⟩
            rw [hfb] at HE ⊢
            go_wp2_with fail
            go_round
            case rel => exact ⟨k + 1, fb, by omega, by go_num, rfl, by rw [HE.out]; rfl⟩
            case measure => simp [intOf]; omega
        · have hkn : k = n := by omega
          subst hkn
          have hu := U3.out.symm.trans hf.out
          have HU := Lib.hid hu
          cases fb with
          | false =>
            clear HO hu
            go_wp2_with fail
            go_returns
            have hR : RF = ([], 2) := by
              rw [HRF.out, HU.out]
              rfl
            rw [hR]
            exact ⟨_, rfl, World.ownsRow_made w #[] 0 (Nat.le_refl _) (by decide) rfl, (Below.refl _ _).alloc (Nat.le_refl _) _⟩
          | true =>
            have HO2 := Lib.hid (HO.out hu w hI.out)
            clear HO hu
            go_wp2_with fail
            refine HO2.out.mono ?_
            rintro e w' ⟨r, rfl, hown, hB⟩
            go_wp2_with fail
            go_returns
            have hR : RF = (outD zs, 0) := by
              rw [HRF.out, HU.out]
              rfl
            rw [hR]
            exact ⟨_, rfl, hown, hB⟩
    · have hF : drawF zs s = ([], 2) := by simp [drawF, hs]
      rw [hF]
      rw [h1] at hin
      have HI := Lib.hid hin
      obtain ⟨a1, c1, rfl⟩ := h.len
      have hsb : (s == 2 * (zs.length : Int)) = false := by simp [hs]
      clear hF hin h h1
      obtain ⟨n, hln⟩ : ∃ n, n = zs.length := ⟨_, rfl⟩
      rw [← hln] at HI hn hsb hb hs ⊢
      clear hln hs
      go_enter Try.func34, Try.ntmps34
      go_wp2_with fail
      refine HI.out.mono ?_
      rintro e w' ⟨rfl, rfl⟩
      go_wp2_with fail
      go_loop [6, 7] (fun f i => ∃ k : Nat, k ≤ n ∧ i = .int .i64 k ∧ f = .bool false) (fun _ i => n - (intOf i).toNat)
      case atStart => exact ⟨0, Nat.zero_le _, rfl, rfl⟩
      case round =>
        obtain ⟨k, hk, rfl, rfl⟩ := hrel
        by_cases hlt : k < n
        · go_wp2_with fail
          go_round
          case rel => exact ⟨k + 1, by omega, by go_num, rfl⟩
          case measure => simp [intOf]; omega
        · go_wp2_with fail
          go_returns
          exact ⟨_, rfl, World.ownsRow_made w #[] 0 (Nat.le_refl _) (by decide) rfl, (Below.refl _ _).alloc (Nat.le_refl _) _⟩

set_option maxRecDepth 100000 in
set_option maxHeartbeats 1000000 in
theorem implDraw_any (v : Value) (zs : List Int) (s : Int) (w : World) (h : Ints w v zs) (hn : zs.length ≤ 1048576) :
    Calls Try.prog 35 #[v, .int .i64 s] w fun e w' => ∃ r, e = .returned (.tuple #[r, .int .i64 (drawF zs s).2]) ∧ Own w' w.heap.size r (drawF zs s).1 ∧ Below w.heap.size w w' := by
  obtain ⟨a1, c1, rfl⟩ := h.len
  have HU := Lib.hid (areUp_any _ zs 20000 w h hn)
  have HO := Lib.hid fun (hp : 0 < zs.length) (hu : upTo zs 20000 = true) => drawnOut_any _ zs w h hn hp hu
  by_cases h1 : zs.length < 1
  · have hF : drawF zs s = ([], 2) := by
      unfold drawF
      rw [inB_mkno (by omega)]
      rfl
    rw [hF]
    clear hF HU HO h
    go_enter Try.func35, Try.ntmps35
    go_wp2_with fail
    go_returns
    exact ⟨_, rfl, World.ownsRow_nil _ _ _ _, Below.refl _ _⟩
  · by_cases h6 : 6 < zs.length
    · have hF : drawF zs s = ([], 2) := by
        unfold drawF
        rw [inB_mkno (by omega)]
        rfl
      rw [hF]
      clear hF HU HO h
      go_enter Try.func35, Try.ntmps35
      go_wp2_with fail
      go_returns
      exact ⟨_, rfl, World.ownsRow_nil _ _ _ _, Below.refl _ _⟩
    · have hI : inB (zs.length : Int) 1 6 = true := inB_mk (by omega)
      cases hu : upTo zs 20000 with
      | false =>
        have hF : drawF zs s = ([], 2) := by simp [drawF, hu]
        rw [hF]
        have hU2 := HU.out
        rw [hu] at hU2
        have HU2 := Lib.hid hU2
        clear hF HU HO h hI hu hU2
        go_enter Try.func35, Try.ntmps35
        go_wp2_with fail
        refine HU2.out.mono ?_
        rintro e w' ⟨rfl, rfl⟩
        go_wp2_with fail
        go_returns
        exact ⟨_, rfl, World.ownsRow_nil _ _ _ _, Below.refl _ _⟩
      | true =>
        have hU2 := HU.out
        rw [hu] at hU2
        have HU2 := Lib.hid hU2
        have HO2 := Lib.hid (HO.out (by omega) hu)
        by_cases hs : s = 2 * (zs.length : Int)
        · have hF : drawF zs s = (outD zs, 0) := by simp [drawF, hu, hI, hs]
          rw [hF]
          clear hF HU HO h hI hu hU2
          have hsb : (s != 2 * (zs.length : Int)) = false := by simp [hs]
          go_enter Try.func35, Try.ntmps35
          go_wp2_with fail
          refine HU2.out.mono ?_
          rintro e w' ⟨rfl, rfl⟩
          go_wp2_with fail
          refine HO2.out.mono ?_
          rintro e w' ⟨r, rfl, hown, hB⟩
          go_wp2_with fail
          go_returns
          exact ⟨_, rfl, hown, hB⟩
        · have hF : drawF zs s = ([], 2) := by simp [drawF, hs]
          rw [hF]
          clear hF HU HO h hI hu hU2 HO2
          have hsb : (s != 2 * (zs.length : Int)) = true := by simp [hs]
          go_enter Try.func35, Try.ntmps35
          go_wp2_with fail
          refine HU2.out.mono ?_
          rintro e w' ⟨rfl, rfl⟩
          go_wp2_with fail
          go_returns
          exact ⟨_, rfl, World.ownsRow_nil _ _ _ _, Below.refl _ _⟩
end Go.Proofs.Ytaccoonhbilgdaa
