/-
  No statement is proved here: a web's text read again; when a web is even; a web laid double and drawn out; condition: a valid web.
-/
import Derived.Test.YtpnfombolnaldaaGreatDoorSpread
import Derived.Test.YtpnfombolnaldaaGreatDoorWebsFacts
import Derived.Test.YtpnfombolnaldaaGreatDoorTextDefs
import Derived.Test.YtpnfombolnaldaaGreatDoorReadDefs
import Derived.Test.YtpnfombolnaldaaGreatDoorUneven
import Derived.Test.YtpnfombolnaldaaGreatDoorCardOnce
import Derived.Test.YtpnfombolnaldaaGreatDoorDrawOutI
import Derived.Test.YtpnfombolnaldaaGreatDoorRollWeb
namespace Go.Proofs.YtpnfombolnaldaaGreatDoor
open Go.ChangeShapes Go.WideShapes Go.ChangeAt Go.RowKit

set_option maxRecDepth 100000 in
set_option maxHeartbeats 1000000 in
theorem webSpread_any (v : Value) (zs : List Int) (w : World) (h : Ints w v zs) (hn : zs.length ≤ 1048576) (h0 : 0 < zs.length) (hu : upTo zs 10000 = true) :
    Calls Tryz.prog 48 #[v] w fun e w' => e = .returned (.int .i64 (mxTo zs zs.length - mnTo zs zs.length)) ∧ w = w' := by
  have H1 := Lib.hid (slMax_any v zs w h hn h0)
  have H2 := Lib.hid (slMin_any v zs w h hn h0)
  have b1 := mxTo_bd hu h0 zs.length (Nat.le_refl _)
  have b2 := mnTo_bd hu h0 zs.length (Nat.le_refl _)
  clear h hu
  generalize mxTo zs zs.length = p at *
  generalize mnTo zs zs.length = q at *
  go_enter Tryz.func48, Tryz.ntmps48
  go_wp2_with fail
  refine H1.out.mono ?_
  rintro e w' ⟨rfl, rfl⟩
  go_wp2_with fail
  refine H2.out.mono ?_
  rintro e w' ⟨rfl, rfl⟩
  go_wp2
  go_ret
  exact ⟨rfl, rfl⟩

/-- What SpreadOf answers. -/
def sprF (zs : List Int) : Int × Int := if okW zs = true then (mxTo zs zs.length - mnTo zs zs.length, 0) else (0, 1)
theorem sprF_yes {zs : List Int} (h : okW zs = true) : sprF zs = (mxTo zs zs.length - mnTo zs zs.length, 0) := if_pos h
theorem sprF_no {zs : List Int} (h : okW zs = false) : sprF zs = (0, 1) := if_neg (by rw [h]; simp)

set_option maxRecDepth 100000 in
set_option maxHeartbeats 1000000 in
theorem implSpread_any (v : Value) (zs : List Int) (w : World) (h : Ints w v zs) (hn : zs.length ≤ 1048576) :
    Calls Tryz.prog 17 #[v] w fun e w' => e = .returned (.tuple #[.int .i64 (sprF zs).1, .int .i64 (sprF zs).2]) ∧ w = w' := by
  have hin := valid_any v zs w h hn
  cases hok : okW zs with
  | false =>
    rw [hok] at hin
    have HI := Lib.hid hin
    rw [sprF_no hok]
    clear hin hok h
    go_enter Tryz.func17, Tryz.ntmps17
    go_wp2_with fail
    refine HI.out.mono ?_
    rintro e w' ⟨rfl, rfl⟩
    go_wp2
    go_returns
    exact ⟨rfl, rfl⟩
  | true =>
    rw [hok] at hin
    have HI := Lib.hid hin
    have HT := Lib.hid (webSpread_any v zs w h hn (by have := okW_len hok; omega) (okW_up hok))
    rw [sprF_yes hok]
    clear hin hok h
    generalize mxTo zs zs.length - mnTo zs zs.length = S at *
    go_enter Tryz.func17, Tryz.ntmps17
    go_wp2_with fail
    refine HI.out.mono ?_
    rintro e w' ⟨rfl, rfl⟩
    go_wp2_with fail
    refine HT.out.mono ?_
    rintro e w' ⟨rfl, rfl⟩
    go_wp2
    go_returns
    exact ⟨rfl, rfl⟩

end Go.Proofs.YtpnfombolnaldaaGreatDoor

namespace Go.Proofs.YtpnfombolnaldaaGreatDoor
open Go.ChangeShapes Go.WideShapes Go.ChangeAt Go.RowKit

theorem mem_get {zs : List Int} {z : Int} (h : z ∈ zs) : ∃ k, k < zs.length ∧ zs.getD k 0 = z := by
  obtain ⟨k, hk, e⟩ := List.mem_iff_getElem.1 h
  exact ⟨k, hk, by rw [List.getD, List.getElem?_eq_getElem hk]; exact e⟩
theorem okW_mem {zs : List Int} (hok : okW zs = true) : ∀ z ∈ zs, 0 ≤ z ∧ z ≤ 10000 := fun z hz => by
  obtain ⟨k, hk, e⟩ := mem_get hz
  rw [← e]
  exact okW_get hok k hk
theorem numN_dec {z : Int} (h : 0 ≤ z ∧ z ≤ 10000) : (numN (Lib.decDigits z.toNat) : Int) = z ∧ numB (Lib.decDigits z.toNat) = true := by
  have e := num_dec (n := z.toNat) (by omega)
  rw [numN, numB, e]
  exact ⟨by simp; omega, rfl⟩
/-- What is written of a web is read as that web. -/
theorem read_text {zs : List Int} (hok : okW zs = true) : readF (txtTo zs zs.length) = (zs, 0) := by
  have hl := okW_len hok
  have hm := okW_mem hok
  have hs : sp (txtTo zs zs.length) = zs.map fun y => Lib.decDigits y.toNat := by
    rw [txt_join (by omega)]
    refine sp_join _ ?_ ?_
    · intro e
      rw [List.map_eq_nil_iff] at e
      rw [e] at hl
      simp at hl
    · intro x hx
      obtain ⟨y, _, rfl⟩ := List.mem_map.1 hx
      exact dec_blank _
  have hn : nums (sp (txtTo zs zs.length)) = zs := by
    rw [hs, nums, List.map_map]
    have : ∀ l : List Int, (∀ z ∈ l, 0 ≤ z ∧ z ≤ 10000) → l.map ((fun x => (numN x : Int)) ∘ fun y => Lib.decDigits y.toNat) = l := by
      intro l
      induction l with
      | nil => intro _; rfl
      | cons z l ih =>
        intro h
        rw [List.map_cons, ih fun y hy => h y (List.mem_cons_of_mem _ hy)]
        congr 1
        exact (numN_dec (h z (by simp))).1
    exact this zs hm
  have ha : (sp (txtTo zs zs.length)).all numB = true := by
    rw [hs, List.all_eq_true]
    intro x hx
    obtain ⟨y, hy, rfl⟩ := List.mem_map.1 hx
    exact (numN_dec (hm y hy)).2
  rw [readF_yes ha (by rw [hn]; exact hok), hn]
theorem text_yes {zs : List Int} (hok : okW zs = true) : textF zs = txtTo zs zs.length := if_pos hok

/-- What Unevenness answers of a web with wool. -/
theorem low_pos {n d : Int} (hn : 0 ≤ n) (hd : 0 < d) : 0 ≤ lowN n d ∧ 1 ≤ lowD n d ∧ (lowN n d = 0 ↔ n = 0) := by
  have hg := gcd_pos_right (n := n) (d := d) (by omega)
  have hgd : (Int.gcd n d : Int) ∣ d := Int.gcd_dvd_right ..
  have hgn : (Int.gcd n d : Int) ∣ n := Int.gcd_dvd_left ..
  unfold lowN lowD
  rw [if_neg (by omega)]
  obtain ⟨g, hgg⟩ : ∃ g : Int, g = (Int.gcd n d : Int) := ⟨_, rfl⟩
  rw [← hgg] at hg hgd hgn ⊢
  obtain ⟨a, rfl⟩ := hgn
  obtain ⟨b, rfl⟩ := hgd
  rw [Int.mul_tdiv_cancel_left _ (by omega), Int.mul_tdiv_cancel_left _ (by omega)]
  have hb : 0 < b := by
    rcases Int.lt_or_le 0 b with h | h
    · exact h
    · have := Int.mul_nonpos_of_nonneg_of_nonpos (Int.le_of_lt hg) h
      omega
  have ha : 0 ≤ a := by
    rcases Int.lt_or_le a 0 with h | h
    · have := Int.mul_neg_of_pos_of_neg hg h
      omega
    · exact h
  refine ⟨ha, by omega, fun e => by rw [e, Int.mul_zero], fun e => ?_⟩
  rcases Int.mul_eq_zero.1 e with h | h
  · omega
  · exact h
theorem off_zero {zs : List Int} (hok : okW zs = true) : ∀ k, k ≤ zs.length → (offTo zs k = 0 ↔ ∀ j, j < k → zs.getD j 0 * (zs.length : Int) = zs.sum)
  | 0, _ => by simp [offTo]
  | k + 1, hk => by
    have ih := off_zero hok k (by omega)
    have hb := offTo_bd hok k (by omega)
    rw [offTo_step zs k (by omega)]
    constructor
    · intro e j hj
      have e1 : offTo zs k = 0 := by omega
      by_cases hjk : j < k
      · exact ih.1 e1 j hjk
      · have : j = k := by omega
        subst this
        omega
    · intro h
      have e1 := ih.2 fun j hj => h j (by omega)
      have e2 := h k (by omega)
      rw [e1]
      omega
theorem mx_ge (zs : List Int) : ∀ k, k ≤ zs.length → ∀ j, j < k → zs.getD j 0 ≤ mxTo zs k ∧ mnTo zs k ≤ zs.getD j 0
  | 0, _, j, hj => absurd hj (Nat.not_lt_zero _)
  | k + 1, hk, j, hj => by
    rw [mxTo_step zs k (by omega), mnTo_step zs k (by omega)]
    by_cases h : j < k
    · have := mx_ge zs k (by omega) j h
      omega
    · have : j = k := by omega
      subst this
      omega
theorem mx_all {zs : List Int} {c : Int} (h0 : 0 < zs.length) (hc : ∀ j, j < zs.length → zs.getD j 0 = c) : ∀ k, k ≤ zs.length → mxTo zs k = c ∧ mnTo zs k = c
  | 0, _ => ⟨hc 0 h0, hc 0 h0⟩
  | k + 1, hk => by
    have ih := mx_all h0 hc k (by omega)
    have hz := hc k (by omega)
    rw [mxTo_step zs k (by omega), mnTo_step zs k (by omega)]
    omega
theorem mx_le {zs : List Int} (h0 : 0 < zs.length) : mnTo zs zs.length ≤ mxTo zs zs.length := by
  have := mx_ge zs zs.length (Nat.le_refl _) 0 h0
  omega
theorem sum_same {c : Int} : ∀ l : List Int, (∀ z ∈ l, z = c) → l.sum = c * (l.length : Int)
  | [], _ => by simp
  | z :: l, h => by
    have ih := sum_same l fun y hy => h y (List.mem_cons_of_mem _ hy)
    have hz := h z (by simp)
    rw [List.sum_cons, ih, hz, List.length_cons, Int.natCast_add, Int.mul_add]
    simp
    omega
theorem even_same {zs : List Int} (hok : okW zs = true) : offTo zs zs.length = 0 ↔ mxTo zs zs.length - mnTo zs zs.length = 0 := by
  have hl := okW_len hok
  have hge := mx_ge zs zs.length (Nat.le_refl _)
  rw [off_zero hok zs.length (Nat.le_refl _)]
  constructor
  · intro h
    have hc : ∀ j, j < zs.length → zs.getD j 0 = zs.getD 0 0 := fun j hj => by
      have h1 := h j hj
      have h2 := h 0 (by omega)
      have h3 := h1.trans h2.symm
      exact Int.eq_of_mul_eq_mul_right (by omega) h3
    obtain ⟨e1, e2⟩ := mx_all (by omega) hc zs.length (Nat.le_refl _)
    omega
  · intro h j hj
    have hc : ∀ k, k < zs.length → zs.getD k 0 = zs.getD j 0 := fun k hk => by
      have h1 := hge j hj
      have h2 := hge k hk
      omega
    have hs := sum_same (c := zs.getD j 0) zs fun z hz => by
      obtain ⟨k, hk, e⟩ := mem_get hz
      rw [← e]
      exact hc k hk
    exact hs.symm
/-- The whole of what the law asks of Unevenness. -/
theorem un_none {zs : List Int} (hok : okW zs = true) (h : zs.sum = 0) : unF zs = (0, 0, 6) := by
  unfold unF
  rw [if_pos hok, if_pos h]
theorem un_some {zs : List Int} (hok : okW zs = true) (h : 0 < zs.sum) : ∃ a b : Int, unF zs = (a, b, 0) ∧ 0 ≤ a ∧ 1 ≤ b ∧ (a = 0 ↔ mxTo zs zs.length - mnTo zs zs.length = 0) := by
  have hl := okW_len hok
  have ho := (offTo_bd hok zs.length (Nat.le_refl _)).1
  have hd : 0 < (zs.length : Int) * zs.sum := Int.mul_pos (by omega) h
  obtain ⟨h1, h2, h3⟩ := low_pos ho hd
  refine ⟨_, _, ?_, h1, h2, h3.trans (even_same hok)⟩
  unfold unF
  rw [if_pos hok, if_neg (by omega)]
/-- A web laid double, drawn out, is what a pass over it without waste leaves. -/
theorem draw_half {zs : List Int} (hok : okW zs = true) : drawF (dblTo zs true (zs.length / 2)) (zs.length : Int) = (laid true zs, 0) := by
  have hl := okW_len hok
  unfold drawF
  rw [if_pos]
  · rfl
  · rw [dblTo_length]
    simp only [Bool.and_eq_true, decide_eq_true_eq]
    exact ⟨inB_mk ⟨by omega, by omega⟩, by omega, dbl_up hok⟩
theorem once_fold {zs : List Int} (hok : okW zs = true) : cardO zs 102 0 = (laid true zs, 0, 0) := by
  rw [cardO_yes hok (inB_mk ⟨by omega, by omega⟩) rfl, passR_f, card_none, fall_none]
theorem rev_ok {zs : List Int} (hok : okW zs = true) : okW zs.reverse = true := by
  have hl := okW_len hok
  have hu := okW_up hok
  refine okW_mk (by simpa using hl.1) (by simpa using hl.2.1) (by simpa using hl.2.2) fun k hk => ?_
  refine okW_mem hok _ ?_
  rw [← List.mem_reverse, List.getD, List.getElem?_eq_getElem hk]
  exact List.getElem_mem hk
end Go.Proofs.YtpnfombolnaldaaGreatDoor
