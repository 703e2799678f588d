/-
  No statement is proved here: what carding, rolling and laying double keep of a web; condition: a valid web.
-/
import Derived.Test.YtpnfombolnaldaaGreatDoorCardSpec
namespace Go.Proofs.YtpnfombolnaldaaGreatDoor
open Go.ChangeShapes Go.WideShapes Go.ChangeAt Go.RowKit

theorem sum_roll (zs : List Int) (p : Nat) : (rollL zs p).sum = zs.sum := by
  have h := congrArg List.sum (List.take_append_drop (zs.length - p) zs)
  rw [List.sum_append] at h
  rw [rollL, List.sum_append]
  omega
theorem sum_out : ∀ hs : List Int, (∀ z ∈ hs, 0 ≤ z) → (outD hs).sum = hs.sum
  | [], _ => rfl
  | z :: hs, h => by
    have ih := sum_out hs (fun y hy => h y (List.mem_cons_of_mem _ hy))
    rw [outD, List.flatMap_cons, ← outD, List.sum_append, ih, List.sum_cons]
    simp
    omega
theorem take_all_get (xs : List Int) (k : Nat) : (xs.take k).sum + (xs.drop k).sum = xs.sum := by
  have h := congrArg List.sum (List.take_append_drop k xs)
  rw [List.sum_append] at h
  exact h
theorem sum_on (xs ys : List Int) : ∀ k, k ≤ xs.length → (onTo xs ys k).sum = xs.sum + ((List.range k).map fun j => ys.getD j 0).sum
  | 0, _ => by
    rw [onTo_zero]
    simp
  | k + 1, hk => by
    have ih := sum_on xs ys k (by omega)
    rw [← onTo_step xs ys k (by omega), sum_put _ _ _ (by rw [onTo_length]; omega), ih, onTo_get xs ys k k (by omega), if_neg (by omega), List.range_succ, List.map_append, List.sum_append]
    simp
    omega
theorem range_get (ys : List Int) : (List.range ys.length).map (fun j => ys.getD j 0) = ys := by
  refine ext_getD (by simp) fun j hj => ?_
  simp at hj
  simp [List.getD, hj]
theorem sum_rev (ys : List Int) : ys.reverse.sum = ys.sum := by
  induction ys with
  | nil => rfl
  | cons y ys ih => simp [List.sum_append, ih]; omega
theorem sum_dbl {zs : List Int} (f : Bool) (hok : okW zs = true) : (dblTo zs f (zs.length / 2)).sum = zs.sum := by
  have hl := okW_len hok
  obtain ⟨h, hh⟩ : ∃ h, h = zs.length / 2 := ⟨_, rfl⟩
  have hn : zs.length = 2 * h := by omega
  have l1 : (zs.take h).length = h := by rw [List.length_take]; omega
  have l2 : (zs.drop h).length = h := by rw [List.length_drop]; omega
  have e := take_all_get zs h
  rw [← hh]
  cases f with
  | true =>
    have l3 : (zs.drop h).reverse.length = h := by rw [List.length_reverse, l2]
    have hr := range_get (zs.drop h).reverse
    rw [l3] at hr
    rw [← fold_eq zs h hn (by omega), sum_on _ _ _ (by omega), hr, sum_rev]
    exact e
  | false =>
    have hr := range_get (zs.drop h)
    rw [l2] at hr
    rw [← cross_eq zs h hn, sum_on _ _ _ (by omega), hr]
    exact e
theorem up_mem {zs : List Int} {m : Int} (h : upTo zs m = true) : ∀ z ∈ zs, 0 ≤ z := fun z hz => by
  rw [upTo, List.all_eq_true] at h
  exact (inB_of (h z hz)).1
theorem sum_laid {zs : List Int} (f : Bool) (hok : okW zs = true) : (laid f zs).sum = zs.sum := by
  rw [laid, sum_out _ (up_mem (dbl_up hok)), sum_dbl f hok]
theorem shed_sum_le {p : Int} {zs : List Int} (hok : okW zs = true) (hp : 0 ≤ p) (hp' : p ≤ 100) : ∀ k, k ≤ zs.length → (shedTo p zs k).sum ≤ zs.sum
  | 0, _ => by
    rw [shedTo_zero]
    exact Int.le_refl _
  | k + 1, hk => by
    have ih := shed_sum_le hok hp hp' k (by omega)
    have hz := okW_get hok k (by omega)
    have hl := loss_bd hz.1 hz.2 hp hp'
    rw [shedTo_sum p zs k (by omega)]
    omega
theorem shed_none (zs : List Int) (k : Nat) : shedTo 0 zs k = zs := by
  refine ext_getD (shedTo_length 0 zs k) fun j hj => ?_
  rw [shedTo_length] at hj
  rw [shedTo_get 0 zs k j hj]
  have : lossOf 0 (zs.getD j 0) = 0 := by simp [lossOf]
  rw [this]
  split <;> omega
theorem fall_nonneg {p : Int} {f : Bool} {zs : List Int} (hok : okW zs = true) (hp : 0 ≤ p) (hp' : p ≤ 100) : 0 ≤ fallW p f zs := by
  have h := shed_sum_le (laid_ok (f := f) hok) hp hp' zs.length (by rw [laid_length hok]; exact Nat.le_refl _)
  unfold fallW cardW
  omega
theorem card_none (f : Bool) (zs : List Int) : cardW 0 f zs = laid f zs := shed_none _ _
theorem fall_none (f : Bool) (zs : List Int) : fallW 0 f zs = 0 := by
  rw [fallW, card_none]
  omega
theorem fall_sum {p : Int} {f : Bool} {zs : List Int} (hok : okW zs = true) : (cardW p f zs).sum + fallW p f zs = zs.sum := by
  have := sum_laid f hok
  unfold fallW
  omega
/-- A pass keeps what does not fall out. -/
theorem pass_keeps {p c : Int} {zs : List Int} (hok : okW zs = true) (hp : 0 ≤ p) (hp' : p ≤ 100) (hc : c = 114 ∨ c = 102 ∨ c = 99) :
    (passR p c zs).2.2 = true ∧ (passR p c zs).1.sum + (passR p c zs).2.1 = zs.sum ∧ 0 ≤ (passR p c zs).2.1 ∧ (p = 0 → (passR p c zs).2.1 = 0) := by
  rcases hc with rfl | rfl | rfl
  · rw [passR_r]
    refine ⟨rfl, ?_, Int.le_refl _, fun _ => rfl⟩
    show (rollL zs _).sum + 0 = _
    rw [sum_roll]
    omega
  · rw [passR_f]
    exact ⟨rfl, fall_sum hok, fall_nonneg hok hp hp', fun e => by subst e; exact fall_none true zs⟩
  · rw [passR_c]
    exact ⟨rfl, fall_sum hok, fall_nonneg hok hp hp', fun e => by subst e; exact fall_none false zs⟩
/-- So do several passes. -/
theorem go_keeps {p : Int} (hp : 0 ≤ p) (hp' : p ≤ 100) : ∀ (cs zs : List Int) (f : Int), okW zs = true → (∀ c ∈ cs, c = 114 ∨ c = 102 ∨ c = 99) →
    ∃ ys g, goF p cs zs f = (ys, f + g, 0) ∧ okW ys = true ∧ ys.length = zs.length ∧ ys.sum + g = zs.sum ∧ 0 ≤ g ∧ (p = 0 → g = 0)
  | [], zs, f, hok, _ => ⟨zs, 0, by rw [goF, Int.add_zero], hok, rfl, by omega, Int.le_refl _, fun _ => rfl⟩
  | c :: cs, zs, f, hok, hc => by
    obtain ⟨h1, h2, h3, h4⟩ := pass_keeps hok hp hp' (hc c (by simp))
    obtain ⟨o1, o2, _, _⟩ := passR_ok hok hp hp' h1
    obtain ⟨ys, g, e, k1, k2, k3, k4, k5⟩ := go_keeps hp hp' cs (passR p c zs).1 (f + (passR p c zs).2.1) o1 (fun x hx => hc x (List.mem_cons_of_mem _ hx))
    refine ⟨ys, (passR p c zs).2.1 + g, ?_, k1, by omega, by omega, by omega, fun h => by rw [h4 h, k5 h]; rfl⟩
    rw [goF_yes h1, e, Int.add_assoc]
theorem cards_keep {p : Int} {zs cs : List Int} (hok : okW zs = true) (hp : inB p 0 100 = true) (hl : cs.length ≤ 20) (hc : ∀ c ∈ cs, c = 114 ∨ c = 102 ∨ c = 99) :
    ∃ ys g, cardF zs cs p = (ys, g, 0) ∧ okW ys = true ∧ ys.length = zs.length ∧ ys.sum + g = zs.sum ∧ 0 ≤ g ∧ (p = 0 → g = 0) := by
  obtain ⟨h1, h2⟩ := inB_of hp
  obtain ⟨ys, g, e, r⟩ := go_keeps h1 h2 cs zs 0 hok hc
  rw [Int.zero_add] at e
  exact ⟨ys, g, by rw [cardF_go hok hp (by omega), e], r⟩

/-- Rolled, and rolled back. -/
theorem rollP_neg (b : Int) (n : Nat) (hn : 0 < n) : (rollP b n + rollP (-b) n) % n = 0 := by
  have e1 : (rollP b n : Int) = b % (n : Int) := by
    rw [← rollP_eq b n hn, Int.add_emod_right, Int.tmod_def, Int.sub_mul_emod_self_left]
  have e2 : (rollP (-b) n : Int) = (-b) % (n : Int) := by
    rw [← rollP_eq (-b) n hn, Int.add_emod_right, Int.tmod_def, Int.sub_mul_emod_self_left]
  have e3 : ((rollP b n : Int) + (rollP (-b) n : Int)) % (n : Int) = 0 := by
    rw [e1, e2, ← Int.add_emod, Int.add_right_neg]
    exact Int.zero_emod _
  have e4 : (((rollP b n + rollP (-b) n : Nat) : Int)) % (n : Int) = 0 := by
    rw [Int.natCast_add]
    exact e3
  omega
theorem roll_back (zs : List Int) (p q : Nat) (hp : p < zs.length) (hq : q < zs.length) (h : (p + q) % zs.length = 0) : rollL (rollL zs p) q = zs := by
  have l1 := rollL_length zs p
  refine ext_getD (by rw [rollL_length, l1]) fun j hj => ?_
  rw [rollL_length, l1] at hj
  rw [rollL_get _ q j (by omega) (by omega), l1, rollL_get zs p _ hp (Nat.mod_lt _ (by omega))]
  congr 1
  have hpq : p + q = 0 ∨ p + q = zs.length := by
    have hlt : p + q < 2 * zs.length := by omega
    by_cases hs : p + q < zs.length
    · rw [Nat.mod_eq_of_lt hs] at h
      exact .inl h
    · rw [Nat.mod_eq_sub_mod (by omega), Nat.mod_eq_of_lt (by omega)] at h
      exact .inr (by omega)
  rcases hpq with e | e
  · have hp0 : p = 0 := by omega
    have hq0 : q = 0 := by omega
    subst hp0
    subst hq0
    simp only [Nat.sub_zero, Nat.add_mod_right, Nat.mod_mod]
    exact Nat.mod_eq_of_lt hj
  · by_cases hjq : j < q
    · rw [Nat.mod_eq_of_lt (show j + zs.length - q < zs.length by omega), show j + zs.length - q + zs.length - p = j + zs.length by omega, Nat.add_mod_right, Nat.mod_eq_of_lt hj]
    · rw [show j + zs.length - q = (j - q) + zs.length by omega, Nat.add_mod_right, Nat.mod_eq_of_lt (show j - q < zs.length by omega), show j - q + zs.length - p = j by omega, Nat.mod_eq_of_lt hj]
theorem roll_twice (zs : List Int) (b : Int) (h0 : 0 < zs.length) : rollL (rollL zs (rollP b zs.length)) (rollP (-b) zs.length) = zs :=
  roll_back zs _ _ (rollP_lt b _ h0) (rollP_lt (-b) _ h0) (rollP_neg b _ h0)
theorem out_get : ∀ (hs : List Int) (k : Nat), k < hs.length → (outD hs).getD (2 * k) 0 = (hs.getD k 0 + 1) / 2 ∧ (outD hs).getD (2 * k + 1) 0 = hs.getD k 0 / 2
  | [], k, h => absurd h (Nat.not_lt_zero _)
  | z :: hs, 0, _ => by
    rw [outD, List.flatMap_cons]
    exact ⟨rfl, rfl⟩
  | z :: hs, k + 1, h => by
    have ih := out_get hs k (by simpa using h)
    rw [outD, List.flatMap_cons, ← outD]
    have e1 : 2 * (k + 1) = 2 * k + 2 := by omega
    have e2 : 2 * k + 2 + 1 = 2 * k + 1 + 2 := by omega
    rw [e1, e2]
    exact ih
end Go.Proofs.YtpnfombolnaldaaGreatDoor
