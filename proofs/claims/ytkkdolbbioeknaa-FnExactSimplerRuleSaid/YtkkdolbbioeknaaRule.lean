/-
  Rules made of rules, the pure mathematics: words of letters, what they award (the last letter first), that awards stay the same when a word is made simpler, and that turned, cutting is giving rights. No condition but that it is a case and a rule.
-/
import Derived.Test.YtkkdolbbioeknaaArr7
namespace Go.Proofs.Ytkkdolbbioeknaa
open Go.RowKit

/-! Words. -/
/-- A letter that a rule may begin with: e l h a. -/
def firstL (x : UInt8) : Bool := x == 101 || x == 108 || x == 104 || x == 97
/-- A letter that turns a rule: d c r. -/
def turnL (x : UInt8) : Bool := x == 100 || x == 99 || x == 114
def ruleB : List UInt8 → Bool
  | [] => false
  | a :: r => firstL a && r.all turnL && decide (r.length ≤ 7)
/-- A rule from behind. -/
def okR : List UInt8 → Bool
  | [] => false
  | [x] => firstL x
  | x :: y :: r => turnL x && okR (y :: r)
theorem okR_turn {x : UInt8} {r : List UInt8} (h : okR r = true) (hx : turnL x = true) : okR (x :: r) = true := by
  cases r with
  | nil => simp [okR] at h
  | cons y r => simp [okR, hx, h]
theorem okR_turns {r : List UInt8} (h : okR r = true) : ∀ p : List UInt8, p.all turnL = true → okR (p ++ r) = true
  | [], _ => h
  | x :: p, hp => by
    simp only [List.all_cons, Bool.and_eq_true] at hp
    exact okR_turn (okR_turns h p hp.2) hp.1
theorem ruleB_iff {a : UInt8} {r : List UInt8} : ruleB (a :: r) = true ↔ firstL a = true ∧ r.all turnL = true ∧ r.length ≤ 7 := by
  simp only [ruleB, Bool.and_eq_true, decide_eq_true_eq, and_assoc]
theorem ruleB_form {l : List UInt8} (h : ruleB l = true) : ∃ a r, l = a :: r ∧ firstL a = true ∧ r.all turnL = true ∧ r.length ≤ 7 := by
  cases l with
  | nil => cases h
  | cons a r => exact ⟨a, r, rfl, ruleB_iff.1 h⟩
theorem ruleB_okR {l : List UInt8} (h : ruleB l = true) : okR l.reverse = true := by
  obtain ⟨a, r, rfl, h1, h2, _⟩ := ruleB_form h
  rw [List.reverse_cons]
  exact okR_turns (show okR [a] = true from h1) _ (by rw [List.all_reverse]; exact h2)
theorem firstL_iff {x : UInt8} : firstL x = true ↔ x = 101 ∨ x = 108 ∨ x = 104 ∨ x = 97 := by simp [firstL, or_assoc]
theorem turnL_iff {x : UInt8} : turnL x = true ↔ x = 100 ∨ x = 99 ∨ x = 114 := by simp [turnL, or_assoc]
theorem first_no_turn {x : UInt8} (h : firstL x = true) : turnL x = false := by
  rcases firstL_iff.1 h with rfl | rfl | rfl | rfl <;> rfl
theorem turn_no_first {x : UInt8} (h : turnL x = true) : firstL x = false := by
  rcases turnL_iff.1 h with rfl | rfl | rfl <;> rfl

/-! What a rule awards. -/
/-- Awards and rights together. -/
def plusR (rs ys : List Int) : List Int := (List.range ys.length).map fun k => ys.getD k 0 + 48 * rs.getD k 0
theorem plusR_length (rs ys : List Int) : (plusR rs ys).length = ys.length := by simp [plusR]
theorem plusR_getD (rs ys : List Int) {k : Nat} (h : k < ys.length) : (plusR rs ys).getD k 0 = ys.getD k 0 + 48 * rs.getD k 0 := by simp [plusR, List.getD, h]
/-- The rest's estate. -/
def rE (E : Int) (xs : List Int) : Int := E - (rightsRow E xs).sum
/-- The rest's claims. -/
def rX (E : Int) (xs : List Int) : List Int := cutRow (xs.sum - E) xs
/-- The awards by a rule, the last letter first. -/
def ruleAw : List UInt8 → Int → List Int → List Int
  | [], _, _ => []
  | x :: r, E, xs =>
    if x = 101 then evenAw E xs else if x = 108 then evenLo E xs else if x = 104 then halfAw E xs else if x = 97 then arr E xs
    else if x = 100 then lossesRow xs (ruleAw r (xs.sum - E) xs)
    else if x = 99 then ruleAw r E (cutRow E xs)
    else plusR (rightsRow E xs) (ruleAw r (rE E xs) (rX E xs))
theorem aw_e (r : List UInt8) (E : Int) (xs : List Int) : ruleAw (101 :: r) E xs = evenAw E xs := rfl
theorem aw_l (r : List UInt8) (E : Int) (xs : List Int) : ruleAw (108 :: r) E xs = evenLo E xs := rfl
theorem aw_h (r : List UInt8) (E : Int) (xs : List Int) : ruleAw (104 :: r) E xs = halfAw E xs := rfl
theorem aw_a (r : List UInt8) (E : Int) (xs : List Int) : ruleAw (97 :: r) E xs = arr E xs := rfl
theorem aw_d (r : List UInt8) (E : Int) (xs : List Int) : ruleAw (100 :: r) E xs = lossesRow xs (ruleAw r (xs.sum - E) xs) := rfl
theorem aw_c (r : List UInt8) (E : Int) (xs : List Int) : ruleAw (99 :: r) E xs = ruleAw r E (cutRow E xs) := rfl
theorem aw_r (r : List UInt8) (E : Int) (xs : List Int) : ruleAw (114 :: r) E xs = plusR (rightsRow E xs) (ruleAw r (rE E xs) (rX E xs)) := rfl
theorem rest_ok8 {E : Int} {xs : List Int} (h : caseOkB E xs = true) : caseOkB (rE E xs) (rX E xs) = true := rest_ok h
theorem rX_length (E : Int) (xs : List Int) : (rX E xs).length = xs.length := cutRow_length _ _
theorem aw_get {E : Int} {xs ys : List Int} (h : Aw E xs ys) (k : Nat) (hk : k < xs.length) : 0 ≤ ys.getD k 0 ∧ ys.getD k 0 ≤ 48 * xs.getD k 0 := by
  have e := h.2.2.1 k (by rw [h.2.1]; exact hk) hk
  rwa [← getD_of_lt ys k, ← getD_of_lt xs k hk] at e
theorem aw_of_get {E : Int} {xs ys : List Int} (h : caseOkB E xs = true) (hl : ys.length = xs.length) (hx : ∀ k, k < xs.length → 0 ≤ ys.getD k 0 ∧ ys.getD k 0 ≤ 48 * xs.getD k 0) (hs : ys.sum = 48 * E) : Aw E xs ys :=
  aw_of h hl (fun k h1 h2 => by have e := hx k h2; rwa [getD_of_lt ys k h1, getD_of_lt xs k h2] at e) hs
theorem cut_get (E : Int) (xs : List Int) (k : Nat) (hk : k < xs.length) : (cutRow E xs).getD k 0 = min (xs.getD k 0) E := by
  rw [getD_of_lt _ k (by rw [cutRow_length]; exact hk), getD_of_lt xs k hk]; simp [cutRow]
theorem rights_get (E : Int) (xs : List Int) (k : Nat) (hk : k < xs.length) : (rightsRow E xs).getD k 0 = max 0 (E - (xs.sum - xs.getD k 0)) := by
  rw [getD_of_lt _ k (by rw [rightsRow_length]; exact hk), getD_of_lt xs k hk, rightsRow_at]
theorem right_cut (E : Int) (xs : List Int) (k : Nat) (hk : k < xs.length) : (rX E xs).getD k 0 + (rightsRow E xs).getD k 0 = xs.getD k 0 := by
  unfold rX; rw [cut_get _ _ k hk, rights_get _ _ k hk]; omega
theorem right_cut' (E : Int) (xs : List Int) (k : Nat) (hk : k < xs.length) : (cutRow E xs).getD k 0 + (rightsRow (xs.sum - E) xs).getD k 0 = xs.getD k 0 := by
  rw [cut_get _ _ k hk, rights_get _ _ k hk]; omega
theorem plusR_sum : ∀ (rs ys : List Int), rs.length = ys.length → (plusR rs ys).sum = ys.sum + 48 * rs.sum
  | [], [], _ => rfl
  | r :: rs, y :: ys, h => by
    have e := plusR_sum rs ys (by simpa using h)
    have q : plusR (r :: rs) (y :: ys) = (y + 48 * r) :: plusR rs ys := by
      simp [plusR, List.range_succ_eq_map, Function.comp_def]
    rw [q]; simp only [List.sum_cons, e]; omega
theorem rule_aw {r : List UInt8} : okR r = true → ∀ {E : Int} {xs : List Int}, caseOkB E xs = true → Aw E xs (ruleAw r E xs) := by
  induction r with
  | nil => intro h; cases h
  | cons x r ih =>
    intro h E xs hc
    cases r with
    | nil =>
      rcases firstL_iff.1 (show firstL x = true from h) with rfl | rfl | rfl | rfl
      · exact evenAw_aw hc
      · exact evenLo_aw hc
      · exact half_aw hc
      · exact arr_aw hc
    | cons y r =>
      have h' : turnL x = true ∧ okR (y :: r) = true := by simpa [okR] using h
      have ih : ∀ {E : Int} {xs : List Int}, caseOkB E xs = true → Aw E xs (ruleAw (y :: r) E xs) := ih h'.2
      rcases turnL_iff.1 h'.1 with rfl | rfl | rfl
      · have e := loss_aw (ih (other_ok hc))
        rwa [back_sum] at e
      · have e := ih (cut_ok hc)
        rw [aw_c]
        refine aw_of_get hc (e.2.1.trans (cutRow_length _ _)) (fun k hk => ?_) e.2.2.2
        have q := aw_get e k (by rw [cutRow_length]; exact hk)
        rw [cut_get _ _ k hk] at q
        omega
      · have e := ih (rest_ok8 hc)
        rw [aw_r]
        have hl : (ruleAw (y :: r) (rE E xs) (rX E xs)).length = xs.length := e.2.1.trans (rX_length _ _)
        refine aw_of_get hc (by rw [plusR_length, hl]) (fun k hk => ?_) ?_
        · have q := aw_get e k (by rw [rX_length]; exact hk)
          have q2 := right_cut E xs k hk
          have q3 := rights_get E xs k hk
          rw [plusR_getD _ _ (by rw [hl]; exact hk)]
          omega
        · rw [plusR_sum _ _ (by rw [hl, rightsRow_length]), e.2.2.2]
          unfold rE; omega
theorem rule_len {r : List UInt8} (h : okR r = true) {E : Int} {xs : List Int} (hc : caseOkB E xs = true) : (ruleAw r E xs).length = xs.length := (rule_aw h hc).2.1

/-! Words that award the same. -/
/-- Two words award the same in each case. -/
def SameAw (t u : List UInt8) : Prop := ∀ E xs, caseOkB E xs = true → ruleAw t E xs = ruleAw u E xs
theorem SameAw.front {t u : List UInt8} (h : SameAw t u) : ∀ p : List UInt8, SameAw (p ++ t) (p ++ u)
  | [] => h
  | x :: p => fun E xs hc => by
    have ih := SameAw.front h p
    simp only [List.cons_append, ruleAw]
    split; rfl
    split; rfl
    split; rfl
    split; rfl
    split; rw [ih _ _ (other_ok hc)]
    split; rw [ih _ _ (cut_ok hc)]
    rw [ih _ _ (rest_ok8 hc)]
theorem SameAw.symm {t u : List UInt8} (h : SameAw t u) : SameAw u t := fun E xs hc => (h E xs hc).symm
theorem SameAw.trans {t u v : List UInt8} (h : SameAw t u) (k : SameAw u v) : SameAw t v := fun E xs hc => (h E xs hc).trans (k E xs hc)
theorem same_dd {w : List UInt8} (hw : okR w = true) : SameAw (100 :: 100 :: w) w := fun E xs hc => by
  rw [aw_d, aw_d, back_sum]
  exact loss_twice _ _ (rule_len hw hc)
theorem same_ec (w v : List UInt8) : SameAw (99 :: 101 :: w) (101 :: v) := fun E xs hc => by rw [aw_c, aw_e, aw_e]; exact evenAw_cut hc
theorem same_ed (w v : List UInt8) : SameAw (100 :: 101 :: w) (108 :: v) := fun _ _ _ => rfl
theorem same_ld (w v : List UInt8) : SameAw (100 :: 108 :: w) (101 :: v) := fun E xs hc => by rw [aw_d, aw_l, aw_e, evenLo_loss, back_sum]
theorem same_lr (w v : List UInt8) : SameAw (114 :: 108 :: w) (108 :: v) := fun E xs hc => by
  rw [aw_r, aw_l, aw_l]
  have hl : (evenLo (rE E xs) (rX E xs)).length = xs.length := by rw [evenLo_length, rX_length]
  refine row_ext (by rw [plusR_length, hl, evenLo_length]) fun k hk => ?_
  rw [plusR_length, hl] at hk
  rw [plusR_getD _ _ (by rw [hl]; exact hk)]
  have e := evenLo_rest hc k hk
  rw [getD_of_lt _ k (by rw [hl]; exact hk), getD_of_lt (rightsRow E xs) k (by rw [rightsRow_length]; exact hk), getD_of_lt (evenLo E xs) k (by rw [evenLo_length]; exact hk)]
  exact e
theorem same_hd (w v : List UInt8) : SameAw (100 :: 104 :: w) (104 :: v) := fun E xs hc => by rw [aw_d, aw_h, aw_h, half_other (other_ok hc), back_sum]
theorem same_hc (w v : List UInt8) : SameAw (99 :: 104 :: w) (104 :: v) := fun E xs hc => by rw [aw_c, aw_h, aw_h]; exact half_cut hc (cut_ok hc)
theorem same_hr (w v : List UInt8) : SameAw (114 :: 104 :: w) (104 :: v) := fun E xs hc => by
  rw [aw_r, aw_h, aw_h]
  have hl : (halfAw (rE E xs) (rX E xs)).length = xs.length := by rw [halfAw_length, rX_length]
  refine row_ext (by rw [plusR_length, hl, halfAw_length]) fun k hk => ?_
  rw [plusR_length, hl] at hk
  rw [plusR_getD _ _ (by rw [hl]; exact hk)]
  exact half_rest hc k hk
theorem same_ad (w v : List UInt8) : SameAw (100 :: 97 :: w) (97 :: v) := fun E xs hc => by rw [aw_d, aw_a, aw_a, arr_loss (other_ok hc), back_sum]
theorem same_ac (w v : List UInt8) : SameAw (99 :: 97 :: w) (97 :: v) := fun E xs hc => by rw [aw_c, aw_a, aw_a]; exact arr_cut_row hc
theorem same_ar (w v : List UInt8) : SameAw (114 :: 97 :: w) (97 :: v) := fun E xs hc => by
  rw [aw_r, aw_a, aw_a]
  have hl : (arr (rE E xs) (rX E xs)).length = xs.length := by rw [arr_length, rX_length]
  refine row_ext (by rw [plusR_length, hl, arr_length]) fun k hk => ?_
  rw [plusR_length, hl] at hk
  rw [plusR_getD _ _ (by rw [hl]; exact hk)]
  have e := arr_rest_row hc (by rw [rest_is_cut]; exact rest_ok hc) hk
  rw [rest_is_cut, arrRow_yes (rest_ok hc), arrRow_yes hc] at e
  exact e
theorem same_cc (w : List UInt8) : SameAw (99 :: 99 :: w) (99 :: w) := fun E xs hc => by rw [aw_c, aw_c, aw_c, cut_idem]
theorem rights_zero (E : Int) (xs : List Int) (k : Nat) (hk : k < xs.length) : (rightsRow (rE E xs) (rX E xs)).getD k 0 = 0 := by
  have e := rest_back E xs
  rw [rights_get _ _ k (by rw [rX_length]; exact hk)]
  have q := cut_get (xs.sum - E) xs k hk
  unfold rE rX at *
  rw [q]
  omega
theorem rest_rest {E : Int} {xs : List Int} (_hc : caseOkB E xs = true) : rE (rE E xs) (rX E xs) = rE E xs ∧ rX (rE E xs) (rX E xs) = rX E xs := by
  have e := rest_back E xs
  refine ⟨by have q := rest_none E xs; unfold rE rX at *; omega, ?_⟩
  have q : (rX E xs).sum - rE E xs = xs.sum - E := e
  show cutRow ((rX E xs).sum - rE E xs) (rX E xs) = rX E xs
  rw [q]; exact cut_idem _ _
theorem same_rr {w : List UInt8} (hw : okR w = true) : SameAw (114 :: 114 :: w) (114 :: w) := fun E xs hc => by
  rw [aw_r, aw_r, aw_r, (rest_rest hc).1, (rest_rest hc).2]
  have hl := (rule_len hw (rest_ok8 hc)).trans (rX_length E xs)
  refine row_ext (by simp only [plusR_length]) fun k hk => ?_
  simp only [plusR_length] at hk
  rw [plusR_getD _ _ (by rw [plusR_length]; exact hk), plusR_getD _ _ hk, plusR_getD _ _ hk, rights_zero E xs k (by rw [← hl]; exact hk)]
  omega
/-- Turned, cutting is giving rights. -/
theorem same_cd {w : List UInt8} (hw : okR w = true) : SameAw (100 :: 99 :: w) (114 :: 100 :: w) := fun E xs hc => by
  rw [aw_d, aw_c, aw_r, aw_d]
  have e : (rX E xs).sum - rE E xs = xs.sum - E := rest_back E xs
  rw [e]
  have hr := cut_ok (other_ok hc)
  have hl : (ruleAw w (xs.sum - E) (cutRow (xs.sum - E) xs)).length = xs.length := (rule_len hw hr).trans (cutRow_length _ _)
  have hl2 : (ruleAw w (xs.sum - E) (rX E xs)).length = (rX E xs).length := rule_len hw hr
  refine row_ext (by rw [plusR_length, lossesRow_length hl, lossesRow_length hl2, hl2, hl, rX_length]) fun k hk => ?_
  rw [lossesRow_length hl, hl] at hk
  rw [plusR_getD _ _ (by rw [lossesRow_length hl2, hl2, rX_length]; exact hk), loss_getD hl k hk, loss_getD hl2 k (by rw [rX_length]; exact hk)]
  have q := right_cut E xs k hk
  show 48 * xs.getD k 0 - (ruleAw w (xs.sum - E) (rX E xs)).getD k 0 = _
  omega
theorem same_rd {w : List UInt8} (hw : okR w = true) : SameAw (100 :: 114 :: w) (99 :: 100 :: w) := fun E xs hc => by
  rw [aw_d, aw_r, aw_c, aw_d]
  have hb := back_sum (E := E) xs
  have e1 : rX (xs.sum - E) xs = cutRow E xs := by unfold rX; rw [hb]
  have e2 : rE (xs.sum - E) xs = (cutRow E xs).sum - E := by
    have q := rest_back (xs.sum - E) xs
    rw [hb] at q
    unfold rE; omega
  rw [e1, e2]
  have hl2 : (ruleAw w ((cutRow E xs).sum - E) (cutRow E xs)).length = (cutRow E xs).length := rule_len hw (other_ok (cut_ok hc))
  have hl : (plusR (rightsRow (xs.sum - E) xs) (ruleAw w ((cutRow E xs).sum - E) (cutRow E xs))).length = xs.length := by rw [plusR_length, hl2, cutRow_length]
  refine row_ext (by rw [lossesRow_length hl, lossesRow_length hl2, hl, hl2, cutRow_length]) fun k hk => ?_
  rw [lossesRow_length hl, hl] at hk
  rw [loss_getD hl k hk, loss_getD hl2 k (by rw [cutRow_length]; exact hk), plusR_getD _ _ (by rw [hl2, cutRow_length]; exact hk)]
  have q := right_cut' E xs k hk
  omega

end Go.Proofs.Ytkkdolbbioeknaa
