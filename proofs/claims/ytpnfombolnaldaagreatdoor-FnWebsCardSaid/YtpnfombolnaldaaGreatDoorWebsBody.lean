/-
  No statement is proved here: the body of the second loop of the law on webs, where all that it compares is equal; conditions: the cells hold what they should, the numbers are small.
-/
import Derived.Test.YtpnfombolnaldaaGreatDoorWebsW
import Derived.BigQuiet
import Derived.Deep.Quiet
namespace Go.Proofs.YtpnfombolnaldaaGreatDoor
open Go.ChangeShapes Go.WideShapes Go.ChangeAt Go.RowKit

/-- o is apart from all later operations that don't wait for it. -/
def apartAll (md : Region.Mode) (ops : Array Oper) (k : Nat) (o : Oper) : List Oper → Bool
  | [] => true
  | p :: rest => (p.after.any (fun e => Region.binds md e && Nat.beq e.on k) || o.apart ops p) && apartAll md ops k o rest
/-- Each operation from k on waits only for earlier ones, and is apart from each later one that doesn't wait for it. -/
def fastLex (md : Region.Mode) (ops : Array Oper) : Nat → List Oper → Bool
  | _, [] => true
  | k, o :: rest => (o.after.all (fun e => !Region.binds md e || Nat.blt e.on k)) && (apartAll md ops k o rest && fastLex md ops (k + 1) rest)

theorem apartAll_get {md : Region.Mode} {ops : Array Oper} {k : Nat} {o : Oper} : ∀ (l : List Oper) (j : Nat) (p : Oper), apartAll md ops k o l = true → l[j]? = some p →
    (∀ e ∈ p.after, Region.binds md e = true → e.on ≠ k) → o.apart ops p = true
  | [], j, p, _, hj, _ => by simp at hj
  | q :: rest, 0, p, h, hj, hno => by
    obtain rfl : q = p := by simpa using hj
    simp only [apartAll, Bool.and_eq_true, Bool.or_eq_true] at h
    rcases h.1 with h1 | h1
    · obtain ⟨e, he, hb⟩ := Array.any_eq_true'.1 h1
      simp only [Bool.and_eq_true] at hb
      exact absurd (Nat.eq_of_beq_eq_true hb.2) (hno e he hb.1)
    · exact h1
  | q :: rest, j + 1, p, h, hj, hno => by
    simp only [apartAll, Bool.and_eq_true] at h
    exact apartAll_get rest j p h.2 (by simpa using hj) hno

theorem getD_same {l : Array Bool} {i : Nat} (h : i < l.size) : l.getD i false = l.getD i true := by simp [Array.getD, h]

theorem wpAnyQ_fast {P : Program} {ops : Array Oper} {md : Region.Mode} {C : World → Prop} {Q : Act → Prop} (hs : Region.noSelect ops = true) : ∀ (l : List Oper) (k : Nat) (listed : Array Bool) (a : Act), (∀ j, l[j]? = ops[k + j]?) →
    listed.size = ops.size → (∀ j, j < ops.size → listed.getD j true = decide (j < k)) → fastLex md ops k l = true → wpQuiet P ops C Q l a → wpAnyQ P md ops C Q l.length listed a
  | [], k, listed, a, hl, hsz, hL, _, h => by
    refine ⟨?_, h⟩
    have hk : ops.size ≤ k := by have := hl 0; simpa using this.symm
    refine List.eq_nil_iff_forall_not_mem.2 fun j hj => ?_
    obtain ⟨h0, o, ho, _⟩ := mem_ready.1 hj
    have hlt := (Array.getElem?_eq_some_iff.1 ho).1
    rw [hL j hlt, decide_eq_true (show j < k by omega)] at h0
    cases h0
  | o :: l, k, listed, a, hl, hsz, hL, hB, h => by
    have h0 : ops[k]? = some o := by simpa using (hl 0).symm
    have hk := (Array.getElem?_eq_some_iff.1 h0).1
    simp only [fastLex, Bool.and_eq_true] at hB
    obtain ⟨hr, hf, hB'⟩ := hB
    have hst : qOp P ops C k (wpQuiet P ops C Q l) a := by unfold qOp; simp only [h0]; exact h
    obtain ⟨v, hy, hK⟩ := yieldsIn_of_qOp h0 hst
    refine wpAnyQ_first h0 (Region.noSelect_spec hs) l.length listed a (fun j oj hj hne hun hno => ?_) (mem_ready.2 ⟨?_, o, h0, fun e he hb => ?_⟩) hy ?_
    · have hlt := (Array.getElem?_eq_some_iff.1 hj).1
      rw [hL j hlt] at hun
      have hjk : k < j := by have := of_decide_eq_false hun; omega
      refine apartAll_get l (j - k - 1) oj hf ?_ hno
      have := hl (j - k)
      rw [show j - k = (j - k - 1) + 1 by omega, List.getElem?_cons_succ] at this
      rw [this, show k + (j - k - 1 + 1) = j by omega]
      exact hj
    · rw [hL k hk]; exact decide_eq_false (by omega)
    · have h1 := Array.all_eq_true_iff_forall_mem.1 hr e he
      rw [hb] at h1
      have h2 : e.on < k := by simpa using h1
      rw [getD_same (by omega), hL e.on (by omega)]
      exact decide_eq_true h2
    · refine wpAnyQ_fast hs l (k + 1) _ _ (fun j => by have := hl (j + 1); simpa [Nat.add_assoc, Nat.add_comm 1 j] using this) (by simpa using hsz) (fun j hj => ?_) hB' hK
      by_cases hjk : j = k
      · subst hjk
        rw [decide_eq_true (show j < j + 1 by omega)]
        simp [Array.getD, hsz, hj]
      · rw [getD_set_ne true (Ne.symm hjk), hL j hj]
        by_cases h2 : j < k
        · rw [decide_eq_true h2, decide_eq_true (show j < k + 1 by omega)]
        · rw [decide_eq_false h2, decide_eq_false (show ¬ j < k + 1 by omega)]

/-- A region whose operations are written out, at the class 'w after some draws'. -/
theorem wp_region_quiet_fast {P : Program} {id : Nat} {Q : Exit → Act → World → Prop} {a : Act} {w : World} {l : List Oper} (hm : P.follows .mixedOrders = true) (hs : Region.noSelect l.toArray = true) (hB : fastLex .any l.toArray 0 l = true)
    (h : wpQuiet P l.toArray (fun w' => ∃ n, w' = w.drewN n) (fun a' => ∀ w', (∃ n, w' = w.drewN n) → Q .normal a' w') l a) : (Code.region id l.toArray true).wp P Q a w := by
  refine wp_region_any hm (wpAny_of_quiet (C := fun w' => ∃ n, w' = w.drewN n) (Q := fun a' => ∀ w', (∃ n, w' = w.drewN n) → Q .normal a' w') (fun _ w' hw' h => h w' hw') _ _ _ _ ⟨1, rfl⟩ ?_)
  have := wpAnyQ_fast (C := fun w' => ∃ n, w' = w.drewN n) (md := .any) hs l 0 (Array.replicate l.toArray.size false) a (by simp) (by simp) (fun j hj => by simp only [List.size_toArray] at hj; simp [Array.getD, hj]) hB h
  simpa using this
def loopsOf : Code → List Code
  | .loop c => [c]
  | .seq a b => loopsOf a ++ loopsOf b
  | .block _ c => loopsOf c
  | .scope c => loopsOf c
  | .cond _ a b => loopsOf a ++ loopsOf b
  | _ => []
/-- The body of the law's second loop. -/
noncomputable def body2 : Code := ((loopsOf (Tryz.f3.body.getD .skip))[1]?).getD .skip

set_option linter.unusedVariables false in
set_option maxHeartbeats 4000000 in
/-- The numbers that the body reckons. -/
theorem body2_facts (n h k j1 j2 j3 j4 : Nat) (z0 z1 z2 q0 q1 : Int)
    (hki : (k : Int) < (h : Int)) (hk2 : (k : Int) < (n : Int)) (h2n : 2 * (h : Int) = (n : Int)) (hn8 : (n : Int) ≤ 100)
    (hj1 : n - 1 - k = j1) (hj2 : k + h = j2) (hj3 : 2 * k = j3) (hj4 : j3 + 1 = j4)
    (b0 : 0 ≤ z0 ∧ z0 ≤ 10000) (b1 : 0 ≤ z1 ∧ z1 ≤ 10000) (b2 : 0 ≤ z2 ∧ z2 ≤ 10000) (f5 : q1 + q0 = z0 + z1) (f6 : q1 - q0 ≤ 1) (f7 : q0 ≤ q1) (f8 : 0 ≤ q0) (f9 : q1 ≤ 10000) :
    ((j1 : Int) < (n : Int)) ∧
    ((j2 : Int) < (n : Int)) ∧
    ((j3 : Int) < (n : Int)) ∧
    ((j4 : Int) < (n : Int)) ∧
    (∀ [Inhabited Nat], IntKind.i64.wrap ((n : Int) - 1) = (n : Int) - 1) ∧
    (∀ [Inhabited Nat], wrap64 ((n : Int) - 1) = (n : Int) - 1) ∧
    (∀ [Inhabited Nat], IntKind.i64.wrap ((n : Int) - 1 - (k : Int)) = (j1 : Int)) ∧
    (∀ [Inhabited Nat], wrap64 ((n : Int) - 1 - (k : Int)) = (j1 : Int)) ∧
    (∀ [Inhabited Nat], IntKind.i64.wrap ((k : Int) + (h : Int)) = (j2 : Int)) ∧
    (∀ [Inhabited Nat], wrap64 ((k : Int) + (h : Int)) = (j2 : Int)) ∧
    (∀ [Inhabited Nat], IntKind.i64.wrap (2 * (k : Int)) = (j3 : Int)) ∧
    (∀ [Inhabited Nat], wrap64 (2 * (k : Int)) = (j3 : Int)) ∧
    (∀ [Inhabited Nat], IntKind.i64.wrap ((j3 : Int) + 1) = (j4 : Int)) ∧
    (∀ [Inhabited Nat], wrap64 ((j3 : Int) + 1) = (j4 : Int)) ∧
    (∀ [Inhabited Nat], IntKind.i64.wrap (z0 + z1) = z0 + z1) ∧
    (∀ [Inhabited Nat], wrap64 (z0 + z1) = z0 + z1) ∧
    (∀ [Inhabited Nat], IntKind.i64.wrap (z0 + z2) = z0 + z2) ∧
    (∀ [Inhabited Nat], wrap64 (z0 + z2) = z0 + z2) ∧
    (∀ [Inhabited Nat], IntKind.i64.wrap (q1 + q0) = z0 + z1) ∧
    (∀ [Inhabited Nat], wrap64 (q1 + q0) = z0 + z1) ∧
    (∀ [Inhabited Nat], IntKind.i64.wrap (q1 - q0) = q1 - q0) ∧
    (∀ [Inhabited Nat], wrap64 (q1 - q0) = q1 - q0) ∧
    (∀ [Inhabited Nat], IntKind.i64.wrap ((k : Int) + 1) = (k : Int) + 1) ∧
    (∀ [Inhabited Nat], wrap64 ((k : Int) + 1) = (k : Int) + 1) ∧
    (∀ [Inhabited Nat], IntKind.i64.wrap ((j1 : Int)) = (j1 : Int)) ∧
    (∀ [Inhabited Nat], wrap64 ((j1 : Int)) = (j1 : Int)) ∧
    (∀ [Inhabited Nat], IntKind.i64.wrap ((j2 : Int)) = (j2 : Int)) ∧
    (∀ [Inhabited Nat], wrap64 ((j2 : Int)) = (j2 : Int)) ∧
    (∀ [Inhabited Nat], IntKind.i64.wrap ((j3 : Int)) = (j3 : Int)) ∧
    (∀ [Inhabited Nat], wrap64 ((j3 : Int)) = (j3 : Int)) ∧
    (∀ [Inhabited Nat], IntKind.i64.wrap ((j4 : Int)) = (j4 : Int)) ∧
    (∀ [Inhabited Nat], wrap64 ((j4 : Int)) = (j4 : Int)) ∧
    (decide (1 < q1 - q0) = false) ∧
    (decide (q1 < q0) = false) ∧
    ((0 : Int) ≤ (j1 : Int)) ∧
    ((0 : Int) ≤ (j2 : Int)) ∧
    ((0 : Int) ≤ (j3 : Int)) ∧
    ((0 : Int) ≤ (j4 : Int)) ∧
    ((0 : Int) ≤ (k : Int)) := by
  exact ⟨(by omega), (by omega), (by omega), (by omega), (by intro _; exact (IntWalk.i64_in ((n : Int) - 1) (by omega)).trans (by omega)), (by intro _; exact (IntWalk.wrap64_in ((n : Int) - 1) (by omega)).trans (by omega)), (by intro _; exact (IntWalk.i64_in ((n : Int) - 1 - (k : Int)) (by omega)).trans (by omega)), (by intro _; exact (IntWalk.wrap64_in ((n : Int) - 1 - (k : Int)) (by omega)).trans (by omega)), (by intro _; exact (IntWalk.i64_in ((k : Int) + (h : Int)) (by omega)).trans (by omega)), (by intro _; exact (IntWalk.wrap64_in ((k : Int) + (h : Int)) (by omega)).trans (by omega)), (by intro _; exact (IntWalk.i64_in (2 * (k : Int)) (by omega)).trans (by omega)), (by intro _; exact (IntWalk.wrap64_in (2 * (k : Int)) (by omega)).trans (by omega)), (by intro _; exact (IntWalk.i64_in ((j3 : Int) + 1) (by omega)).trans (by omega)), (by intro _; exact (IntWalk.wrap64_in ((j3 : Int) + 1) (by omega)).trans (by omega)), (by intro _; exact (IntWalk.i64_in (z0 + z1) (by omega)).trans (by omega)), (by intro _; exact (IntWalk.wrap64_in (z0 + z1) (by omega)).trans (by omega)), (by intro _; exact (IntWalk.i64_in (z0 + z2) (by omega)).trans (by omega)), (by intro _; exact (IntWalk.wrap64_in (z0 + z2) (by omega)).trans (by omega)), (by intro _; exact (IntWalk.i64_in (q1 + q0) (by omega)).trans (by omega)), (by intro _; exact (IntWalk.wrap64_in (q1 + q0) (by omega)).trans (by omega)), (by intro _; exact (IntWalk.i64_in (q1 - q0) (by omega)).trans (by omega)), (by intro _; exact (IntWalk.wrap64_in (q1 - q0) (by omega)).trans (by omega)), (by intro _; exact (IntWalk.i64_in ((k : Int) + 1) (by omega)).trans (by omega)), (by intro _; exact (IntWalk.wrap64_in ((k : Int) + 1) (by omega)).trans (by omega)), (by intro _; exact (IntWalk.i64_in ((j1 : Int)) (by omega)).trans (by omega)), (by intro _; exact (IntWalk.wrap64_in ((j1 : Int)) (by omega)).trans (by omega)), (by intro _; exact (IntWalk.i64_in ((j2 : Int)) (by omega)).trans (by omega)), (by intro _; exact (IntWalk.wrap64_in ((j2 : Int)) (by omega)).trans (by omega)), (by intro _; exact (IntWalk.i64_in ((j3 : Int)) (by omega)).trans (by omega)), (by intro _; exact (IntWalk.wrap64_in ((j3 : Int)) (by omega)).trans (by omega)), (by intro _; exact (IntWalk.i64_in ((j4 : Int)) (by omega)).trans (by omega)), (by intro _; exact (IntWalk.wrap64_in ((j4 : Int)) (by omega)).trans (by omega)), (decide_eq_false (by omega)), (decide_eq_false (by omega)), (Int.natCast_nonneg _), (Int.natCast_nonneg _), (Int.natCast_nonneg _), (Int.natCast_nonneg _), (Int.natCast_nonneg _)⟩

set_option linter.unusedVariables false in
set_option maxRecDepth 1000000 in
set_option maxHeartbeats 40000000 in
theorem body2_ok (Q : Exit → Act → World → Prop) (wr : World) (n h k wb wo wc hb ho hc ob oo oc nb no nc j1 j2 j3 j4 : Nat) (z0 z1 z2 q0 q1 : Int) (s0 s1 s2 s3 s4 s6 s7 s8 s9 s10 s11 s12 s13 s14 s15 s16 s17 s18 s19 s20 s21 s22 s23 s24 s25 s26 s27 s28 s29 s30 s31 s32 s33 s34 s35 s36 s37 s39 s40 s41 s43 s44 s45 s46 s47 s48 s50 s51 s53 s54 s55 s56 s57 s58 s59 s60 s61 s62 s63 s64 s65 s66 s67 s68 s69 s70 s71 s72 s73 s74 s75 s76 s77 s78 s79 s80 s81 s82 s83 s84 s85 s86 s87 s88 s89 s90 s91 s92 s93 s94 s95 s96 s97 s98 s99 s100 s101 s102 s103 s104 s105 s106 s107 s108 s109 s110 s111 s112 s113 s114 s115 s116 s117 s118 s119 s120 s121 s122 s123 s124 s125 s126 s127 s128 s129 s130 s131 s132 s133 s134 s135 s136 s137 s138 s139 s140 s141 s142 s143 s144 s145 s146 s147 s148 s149 s150 s151 s152 s153 s154 s155 s156 s157 s158 s159 s160 s161 s162 s163 s164 s165 s166 s167 s168 s169 s170 s171 s172 s173 s174 s175 s176 s177 s178 s179 s180 s181 s182 s183 s184 s185 s186 s187 s188 s189 s190 s191 s192 s193 s194 s195 s196 s197 s198 s199 s200 s201 s202 s203 s204 s205 s206 s207 s208 s209 s210 s211 s212 s213 s214 s215 s216 s217 s218 s219 s220 s221 s222 s223 s224 s225 s226 s227 s228 s229 s230 s231 s232 s233 s234 s235 s236 s237 s238 s239 s240 s241 s242 s243 s244 s245 s246 s247 s248 s249 s250 s251 s252 s253 s254 s255 s256 s257 s258 s259 s260 s261 s262 s263 s264 s265 s266 s267 s268 s269 s270 s271 s272 s273 s274 s275 s276 s277 s278 s279 s280 s281 s282 s283 s284 s285 s286 s287 s288 s289 s290 s291 s292 s293 s294 s295 s296 s297 s298 s299 s300 s301 s302 s303 s304 s305 s306 s307 s308 s309 s310 s311 s312 s313 s314 s315 s316 s317 s318 s319 s320 s321 s322 s323 s324 s325 s326 s327 s328 s329 s330 s331 s332 s333 s334 s335 s336 s337 s338 s339 s340 s341 s342 s343 s344 s345 s346 s347 s348 s349 s350 s351 s352 s353 s354 s355 s356 s357 s358 s359 s360 s361 s362 s363 s364 s365 s366 s367 s368 s369 s370 s371 s372 s373 s374 s375 s376 s377 s378 s379 s380 s381 s382 s383 s384 s385 s386 s387 s388 s389 s390 s391 s392 s393 s394 s395 s396 s397 s398 s399 s400 s401 s402 s403 s404 s405 s406 s407 s408 s409 s410 s411 s412 s413 s414 s415 s416 s417 s418 s419 s420 s421 s422 s423 s424 s425 s426 s427 s428 s429 s430 s431 s432 s433 s434 s435 s436 s437 s438 s439 s440 s441 s442 s443 s444 s445 s446 s447 s448 s449 s450 s451 s452 s453 s454 s455 s456 s457 s458 s459 s460 s461 s462 s463 s464 s465 s466 s467 s468 s469 s470 s471 s472 s473 s474 s475 s476 s477 s478 s479 s480 s481 s482 s483 s484 s485 s486 s487 s488 s489 s490 s491 s492 s493 s494 s495 s496 s497 s498 s499 s500 s501 s502 s503 s504 s505 s506 s507 s508 s509 s510 s511 s512 s513 s514 s515 s516 s517 s518 s519 s520 s521 s522 s523 s524 s525 s526 s527 s528 s529 s530 s531 s532 s533 s534 s535 s536 s537 s538 s539 s540 s541 s542 s543 s544 s545 s546 s547 : Value)
    (hki : (k : Int) < (h : Int)) (hk2 : (k : Int) < (n : Int)) (h2n : 2 * (h : Int) = (n : Int)) (hn8 : (n : Int) ≤ 100)
    (hj1 : n - 1 - k = j1) (hj2 : k + h = j2) (hj3 : 2 * k = j3) (hj4 : j3 + 1 = j4)
    (c0 : wr.cell? ⟨wb, wo + k, none⟩ = some (.int .i64 z0)) (c1 : wr.cell? ⟨wb, wo + j1, none⟩ = some (.int .i64 z1)) (c2 : wr.cell? ⟨wb, wo + j2, none⟩ = some (.int .i64 z2))
    (c3 : wr.cell? ⟨hb, ho + k, none⟩ = some (.int .i64 (z0 + z1))) (c4 : wr.cell? ⟨ob, oo + k, none⟩ = some (.int .i64 (z0 + z2)))
    (c5 : wr.cell? ⟨nb, no + j3, none⟩ = some (.int .i64 q1)) (c6 : wr.cell? ⟨nb, no + j4, none⟩ = some (.int .i64 q0))
    (b0 : 0 ≤ z0 ∧ z0 ≤ 10000) (b1 : 0 ≤ z1 ∧ z1 ≤ 10000) (b2 : 0 ≤ z2 ∧ z2 ≤ 10000) (f5 : q1 + q0 = z0 + z1) (f6 : q1 - q0 ≤ 1) (f7 : q0 ≤ q1) (f8 : 0 ≤ q0) (f9 : q1 ≤ 10000)
    (hQ : ∀ (u412 u413 u414 u415 u416 u417 u418 u419 u420 u421 u422 u423 u424 u425 u426 u427 u428 u429 u430 u431 u432 u433 u434 u435 u436 u437 u438 u439 u440 u441 u442 u443 u444 u445 u446 u447 u448 u449 u450 u451 u452 u453 u454 u455 u456 u457 u458 u459 u460 u461 u462 u463 u464 u465 u466 u467 u468 u469 u470 u471 u472 u473 u474 u475 u476 u477 u478 u479 u480 u481 u482 u483 u484 u485 u486 u487 u488 u489 u490 u491 u492 u493 u494 u495 u496 u497 u498 u499 u500 u501 u502 : Value) (nq : Nat), Q .normal ⟨#[s0, s1, s2, s3, s4, .slice (some ⟨wb, wo, none⟩) n wc, s6, s7, s8, s9, s10, s11, s12, s13, s14, s15, s16, s17, s18, s19, s20, s21, s22, s23, s24, s25, s26, s27, s28, s29, s30, s31, s32, s33, s34, s35, s36, s37, .slice (some ⟨hb, ho, none⟩) h hc, s39, s40, s41, .slice (some ⟨ob, oo, none⟩) h oc, s43, s44, s45, s46, s47, s48, .slice (some ⟨nb, no, none⟩) n nc, s50, s51, .int .i64 ((k : Int) + 1), s53, s54, s55, s56, s57, s58, s59, s60, s61, s62, s63, s64, s65, s66, s67, s68, s69, s70, s71, s72, s73, s74, s75, s76, s77, s78, s79, s80, s81, s82, s83, s84, s85, s86, s87, s88, s89, s90, s91, s92, s93, s94, s95, s96, s97, s98, s99, s100, s101, s102, s103, s104, s105, s106, s107, s108, s109, s110, s111, s112, s113, s114, s115, s116, s117, s118, s119, s120, s121, s122, s123, s124, s125, s126, s127, s128, s129, s130, s131, s132, s133, s134, s135, s136, s137, s138, s139, s140, s141, s142, s143, s144, s145, s146, s147, s148, s149, s150, s151, s152, s153, s154, s155, s156, s157, s158, s159, s160, s161, s162, s163, s164, s165, s166, s167, s168, s169, s170, s171, s172, s173, s174, s175, s176, s177, s178, s179, s180, s181, s182, s183, s184, s185, s186, s187, s188, s189, s190, s191, s192, s193, s194, s195, s196, s197, s198, s199, s200, s201, s202, s203, s204, s205, s206, s207, s208, s209, s210, s211, s212, s213, s214, s215, s216, s217, s218, s219, s220, s221, s222, s223, s224, s225, s226, s227, s228, s229, s230, s231, s232, s233, s234, s235, s236, s237, s238, s239, s240, s241, s242, s243, s244, s245, s246, s247, s248, s249, s250, s251, s252, s253, s254, s255, s256, s257, s258, s259, s260, s261, s262, s263, s264, s265, s266, s267, s268, s269, s270, s271, s272, s273, s274, s275, s276, s277, s278, s279, s280, s281, s282, s283, s284, s285, s286, s287, s288, s289, s290, s291, s292, s293, s294, s295, s296, s297, s298, s299, s300, s301, s302, s303, s304, s305, s306, s307, s308, s309, s310, s311, s312, s313, s314, s315, s316, s317, s318, s319, s320, s321, s322, s323, s324, s325, s326, s327, s328, s329, s330, s331, s332, s333, s334, s335, s336, s337, s338, s339, s340, s341, s342, s343, s344, s345, s346, s347, s348, s349, s350, s351, s352, s353, s354, s355, s356, s357, s358, s359, s360, s361, s362, s363, s364, s365, s366, s367, s368, s369, s370, s371, s372, s373, s374, s375, s376, s377, s378, s379, s380, s381, s382, s383, s384, s385, s386, s387, s388, s389, s390, s391, s392, s393, s394, s395, s396, s397, s398, s399, s400, s401, s402, s403, s404, s405, s406, s407, s408, s409, s410, s411, u412, u413, u414, u415, u416, u417, u418, u419, u420, u421, u422, u423, u424, u425, u426, u427, u428, u429, u430, u431, u432, u433, u434, u435, u436, u437, u438, u439, u440, u441, u442, u443, u444, u445, u446, u447, u448, u449, u450, u451, u452, u453, u454, u455, u456, u457, u458, u459, u460, u461, u462, u463, u464, u465, u466, u467, u468, u469, u470, u471, u472, u473, u474, u475, u476, u477, u478, u479, u480, u481, u482, u483, u484, u485, u486, u487, u488, u489, u490, u491, u492, u493, u494, u495, u496, u497, u498, u499, u500, u501, u502, s503, s504, s505, s506, s507, s508, s509, s510, s511, s512, s513, s514, s515, s516, s517, s518, s519, s520, s521, s522, s523, s524, s525, s526, s527, s528, s529, s530, s531, s532, s533, s534, s535, s536, s537, s538, s539, s540, s541, s542, s543, s544, s545, s546, s547], []⟩ (wr.drewN nq)) :
    Code.wp Tryz.prog body2 Q ⟨#[s0, s1, s2, s3, s4, .slice (some ⟨wb, wo, none⟩) n wc, s6, s7, s8, s9, s10, s11, s12, s13, s14, s15, s16, s17, s18, s19, s20, s21, s22, s23, s24, s25, s26, s27, s28, s29, s30, s31, s32, s33, s34, s35, s36, s37, .slice (some ⟨hb, ho, none⟩) h hc, s39, s40, s41, .slice (some ⟨ob, oo, none⟩) h oc, s43, s44, s45, s46, s47, s48, .slice (some ⟨nb, no, none⟩) n nc, s50, s51, .int .i64 (k : Int), s53, s54, s55, s56, s57, s58, s59, s60, s61, s62, s63, s64, s65, s66, s67, s68, s69, s70, s71, s72, s73, s74, s75, s76, s77, s78, s79, s80, s81, s82, s83, s84, s85, s86, s87, s88, s89, s90, s91, s92, s93, s94, s95, s96, s97, s98, s99, s100, s101, s102, s103, s104, s105, s106, s107, s108, s109, s110, s111, s112, s113, s114, s115, s116, s117, s118, s119, s120, s121, s122, s123, s124, s125, s126, s127, s128, s129, s130, s131, s132, s133, s134, s135, s136, s137, s138, s139, s140, s141, s142, s143, s144, s145, s146, s147, s148, s149, s150, s151, s152, s153, s154, s155, s156, s157, s158, s159, s160, s161, s162, s163, s164, s165, s166, s167, s168, s169, s170, s171, s172, s173, s174, s175, s176, s177, s178, s179, s180, s181, s182, s183, s184, s185, s186, s187, s188, s189, s190, s191, s192, s193, s194, s195, s196, s197, s198, s199, s200, s201, s202, s203, s204, s205, s206, s207, s208, s209, s210, s211, s212, s213, s214, s215, s216, s217, s218, s219, s220, s221, s222, s223, s224, s225, s226, s227, s228, s229, s230, s231, s232, s233, s234, s235, s236, s237, s238, s239, s240, s241, s242, s243, s244, s245, s246, s247, s248, s249, s250, s251, s252, s253, s254, s255, s256, s257, s258, s259, s260, s261, s262, s263, s264, s265, s266, s267, s268, s269, s270, s271, s272, s273, s274, s275, s276, s277, s278, s279, s280, s281, s282, s283, s284, s285, s286, s287, s288, s289, s290, s291, s292, s293, s294, s295, s296, s297, s298, s299, s300, s301, s302, s303, s304, s305, s306, s307, s308, s309, s310, s311, s312, s313, s314, s315, s316, s317, s318, s319, s320, s321, s322, s323, s324, s325, s326, s327, s328, s329, s330, s331, s332, s333, s334, s335, s336, s337, s338, s339, s340, s341, s342, s343, s344, s345, s346, s347, s348, s349, s350, s351, s352, s353, s354, s355, s356, s357, s358, s359, s360, s361, s362, s363, s364, s365, s366, s367, s368, s369, s370, s371, s372, s373, s374, s375, s376, s377, s378, s379, s380, s381, s382, s383, s384, s385, s386, s387, s388, s389, s390, s391, s392, s393, s394, s395, s396, s397, s398, s399, s400, s401, s402, s403, s404, s405, s406, s407, s408, s409, s410, s411, s412, s413, s414, s415, s416, s417, s418, s419, s420, s421, s422, s423, s424, s425, s426, s427, s428, s429, s430, s431, s432, s433, s434, s435, s436, s437, s438, s439, s440, s441, s442, s443, s444, s445, s446, s447, s448, s449, s450, s451, s452, s453, s454, s455, s456, s457, s458, s459, s460, s461, s462, s463, s464, s465, s466, s467, s468, s469, s470, s471, s472, s473, s474, s475, s476, s477, s478, s479, s480, s481, s482, s483, s484, s485, s486, s487, s488, s489, s490, s491, s492, s493, s494, s495, s496, s497, s498, s499, s500, s501, s502, s503, s504, s505, s506, s507, s508, s509, s510, s511, s512, s513, s514, s515, s516, s517, s518, s519, s520, s521, s522, s523, s524, s525, s526, s527, s528, s529, s530, s531, s532, s533, s534, s535, s536, s537, s538, s539, s540, s541, s542, s543, s544, s545, s546, s547], []⟩ wr := by
  obtain ⟨l1, l2, l3, l4, y1a, y1b, y2a, y2b, y3a, y3b, y4a, y4b, y5a, y5b, y6a, y6b, y7a, y7b, y8a, y8b, y9a, y9b, y10a, y10b, v1a, v1b, v2a, v2b, v3a, v3b, v4a, v4b, g1, g2, n1, n2, n3, n4, n0⟩ := body2_facts n h k j1 j2 j3 j4 z0 z1 z2 q0 q1 hki hk2 h2n hn8 hj1 hj2 hj3 hj4 b0 b1 b2 f5 f6 f7 f8 f9
  have HQ := Lib.hid hQ
  clear hQ hj1 hj2 hj3 hj4 h2n hn8 f5 b0 b1 b2 f6 f7 f8 f9
  generalize ha : (⟨#[s0, s1, s2, s3, s4, .slice (some ⟨wb, wo, none⟩) n wc, s6, s7, s8, s9, s10, s11, s12, s13, s14, s15, s16, s17, s18, s19, s20, s21, s22, s23, s24, s25, s26, s27, s28, s29, s30, s31, s32, s33, s34, s35, s36, s37, .slice (some ⟨hb, ho, none⟩) h hc, s39, s40, s41, .slice (some ⟨ob, oo, none⟩) h oc, s43, s44, s45, s46, s47, s48, .slice (some ⟨nb, no, none⟩) n nc, s50, s51, .int .i64 (k : Int), s53, s54, s55, s56, s57, s58, s59, s60, s61, s62, s63, s64, s65, s66, s67, s68, s69, s70, s71, s72, s73, s74, s75, s76, s77, s78, s79, s80, s81, s82, s83, s84, s85, s86, s87, s88, s89, s90, s91, s92, s93, s94, s95, s96, s97, s98, s99, s100, s101, s102, s103, s104, s105, s106, s107, s108, s109, s110, s111, s112, s113, s114, s115, s116, s117, s118, s119, s120, s121, s122, s123, s124, s125, s126, s127, s128, s129, s130, s131, s132, s133, s134, s135, s136, s137, s138, s139, s140, s141, s142, s143, s144, s145, s146, s147, s148, s149, s150, s151, s152, s153, s154, s155, s156, s157, s158, s159, s160, s161, s162, s163, s164, s165, s166, s167, s168, s169, s170, s171, s172, s173, s174, s175, s176, s177, s178, s179, s180, s181, s182, s183, s184, s185, s186, s187, s188, s189, s190, s191, s192, s193, s194, s195, s196, s197, s198, s199, s200, s201, s202, s203, s204, s205, s206, s207, s208, s209, s210, s211, s212, s213, s214, s215, s216, s217, s218, s219, s220, s221, s222, s223, s224, s225, s226, s227, s228, s229, s230, s231, s232, s233, s234, s235, s236, s237, s238, s239, s240, s241, s242, s243, s244, s245, s246, s247, s248, s249, s250, s251, s252, s253, s254, s255, s256, s257, s258, s259, s260, s261, s262, s263, s264, s265, s266, s267, s268, s269, s270, s271, s272, s273, s274, s275, s276, s277, s278, s279, s280, s281, s282, s283, s284, s285, s286, s287, s288, s289, s290, s291, s292, s293, s294, s295, s296, s297, s298, s299, s300, s301, s302, s303, s304, s305, s306, s307, s308, s309, s310, s311, s312, s313, s314, s315, s316, s317, s318, s319, s320, s321, s322, s323, s324, s325, s326, s327, s328, s329, s330, s331, s332, s333, s334, s335, s336, s337, s338, s339, s340, s341, s342, s343, s344, s345, s346, s347, s348, s349, s350, s351, s352, s353, s354, s355, s356, s357, s358, s359, s360, s361, s362, s363, s364, s365, s366, s367, s368, s369, s370, s371, s372, s373, s374, s375, s376, s377, s378, s379, s380, s381, s382, s383, s384, s385, s386, s387, s388, s389, s390, s391, s392, s393, s394, s395, s396, s397, s398, s399, s400, s401, s402, s403, s404, s405, s406, s407, s408, s409, s410, s411, s412, s413, s414, s415, s416, s417, s418, s419, s420, s421, s422, s423, s424, s425, s426, s427, s428, s429, s430, s431, s432, s433, s434, s435, s436, s437, s438, s439, s440, s441, s442, s443, s444, s445, s446, s447, s448, s449, s450, s451, s452, s453, s454, s455, s456, s457, s458, s459, s460, s461, s462, s463, s464, s465, s466, s467, s468, s469, s470, s471, s472, s473, s474, s475, s476, s477, s478, s479, s480, s481, s482, s483, s484, s485, s486, s487, s488, s489, s490, s491, s492, s493, s494, s495, s496, s497, s498, s499, s500, s501, s502, s503, s504, s505, s506, s507, s508, s509, s510, s511, s512, s513, s514, s515, s516, s517, s518, s519, s520, s521, s522, s523, s524, s525, s526, s527, s528, s529, s530, s531, s532, s533, s534, s535, s536, s537, s538, s539, s540, s541, s542, s543, s544, s545, s546, s547], []⟩ : Act) = a
  conv => arg 2; whnf
  simp only [List.append_eq, List.cons_append, List.nil_append]
  subst ha
  go_wp2_with fail
  refine wp_region_quiet_fast (by kernel_rfl) (by kernel_rfl) (by kernel_rfl) ?_
  repeat (go_big_quiet_step (fail))
  refine wpQuiet_nil ?_
  intro _ hw'
  obtain ⟨nq, hw''⟩ := hw'
  subst hw''
  go_wp2_with fail
  exact HQ.out _ _ _ _ _ _ _ _ _ _ _ _ _ _ _ _ _ _ _ _ _ _ _ _ _ _ _ _ _ _ _ _ _ _ _ _ _ _ _ _ _ _ _ _ _ _ _ _ _ _ _ _ _ _ _ _ _ _ _ _ _ _ _ _ _ _ _ _ _ _ _ _ _ _ _ _ _ _ _ _ _ _ _ _ _ _ _ _ _ _ _ _
end Go.Proofs.YtpnfombolnaldaaGreatDoor
