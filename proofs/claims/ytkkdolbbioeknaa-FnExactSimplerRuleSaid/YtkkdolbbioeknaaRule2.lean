/-
  Words of letters made simpler: one change at a place, and all of them from the first place on; what a change keeps. No condition but that it is a rule.
-/
import Derived.Test.YtkkdolbbioeknaaRule
namespace Go.Proofs.Ytkkdolbbioeknaa
open Go.RowKit

/-- A word with the change at a place, if one fits there. -/
def turnAt (l : List UInt8) (k : Nat) : List UInt8 :=
  if (l.getD k 0 = 101 ∧ l.getD (k + 1) 0 = 99) ∨ (l.getD k 0 = 108 ∧ l.getD (k + 1) 0 = 114) ∨ l.getD k 0 = 104 ∨ l.getD k 0 = 97 then l.take (k + 1) ++ l.drop (k + 2)
  else if l.getD k 0 = 101 ∧ l.getD (k + 1) 0 = 100 then 108 :: l.drop (k + 2)
  else if l.getD k 0 = 108 ∧ l.getD (k + 1) 0 = 100 then 101 :: l.drop (k + 2)
  else if l.getD k 0 = 100 ∧ l.getD (k + 1) 0 = 100 then l.take k ++ l.drop (k + 2)
  else if l.getD k 0 = l.getD (k + 1) 0 then l.take (k + 1) ++ l.drop (k + 2)
  else l
theorem turnAt_lt {l : List UInt8} {k : Nat} (hk : k + 1 < l.length) (h : ¬ turnAt l k = l) : (turnAt l k).length < l.length := by
  have h1 : (l.take (k + 1) ++ l.drop (k + 2)).length < l.length := by rw [List.length_append, List.length_take, List.length_drop]; omega
  have h2 : ∀ x : UInt8, (x :: l.drop (k + 2)).length < l.length := fun x => by rw [List.length_cons, List.length_drop]; omega
  have h3 : (l.take k ++ l.drop (k + 2)).length < l.length := by rw [List.length_append, List.length_take, List.length_drop]; omega
  unfold turnAt at *
  split at h <;> rename_i c1
  · rwa [if_pos c1]
  · rw [if_neg c1]
    split at h <;> rename_i c2
    · rw [if_pos c2]; exact h2 _
    · rw [if_neg c2]
      split at h <;> rename_i c3
      · rw [if_pos c3]; exact h2 _
      · rw [if_neg c3]
        split at h <;> rename_i c4
        · rwa [if_pos c4]
        · rw [if_neg c4]
          split at h <;> rename_i c5
          · rwa [if_pos c5]
          · exact absurd rfl h
/-- What a change keeps. -/
def Keeps8 (l m : List UInt8) : Prop := ruleB m = true ∧ m.length ≤ l.length ∧ SameAw m.reverse l.reverse
theorem Keeps8.refl {l : List UInt8} (h : ruleB l = true) : Keeps8 l l := ⟨h, Nat.le_refl _, fun _ _ _ => rfl⟩
theorem Keeps8.trans {l m n : List UInt8} (h : Keeps8 l m) (k : Keeps8 m n) : Keeps8 l n := ⟨k.1, Nat.le_trans k.2.1 h.2.1, k.2.2.trans h.2.2⟩
theorem keeps_first {a b x : UInt8} {v : List UInt8} (h : ruleB (a :: b :: v) = true) (hx : firstL x = true) (hs : SameAw [x] [b, a]) : Keeps8 (a :: b :: v) (x :: v) := by
  obtain ⟨h1, h2, h3⟩ := ruleB_iff.1 h
  simp only [List.all_cons, Bool.and_eq_true, List.length_cons] at h2 h3
  refine ⟨ruleB_iff.2 ⟨hx, h2.2, by omega⟩, by simp, ?_⟩
  have e := hs.front v.reverse
  simpa using e
theorem keeps_mid {a : UInt8} {u v t t' : List UInt8} (h : ruleB (a :: (u ++ (t ++ v))) = true) (ht : t'.all turnL = true) (hl : t'.length ≤ t.length) (hs : SameAw (t'.reverse ++ (u.reverse ++ [a])) (t.reverse ++ (u.reverse ++ [a]))) : Keeps8 (a :: (u ++ (t ++ v))) (a :: (u ++ (t' ++ v))) := by
  obtain ⟨h1, h2, h3⟩ := ruleB_iff.1 h
  simp only [List.all_append, Bool.and_eq_true, List.length_append] at h2 h3
  refine ⟨ruleB_iff.2 ⟨h1, by simp only [List.all_append, Bool.and_eq_true]; exact ⟨h2.1, ht, h2.2.2⟩, by simp only [List.length_append]; omega⟩, by simp only [List.length_cons, List.length_append]; omega, ?_⟩
  have e := hs.front v.reverse
  simpa using e
theorem keeps_turn {l : List UInt8} {k : Nat} (h : ruleB l = true) (hk : k + 1 < l.length) : Keeps8 l (turnAt l k) := by
  obtain ⟨a, r, rfl, h1, h2, h3⟩ := ruleB_form h
  cases k with
  | zero =>
    cases r with
    | nil => simp at hk
    | cons b v =>
      have hb : turnL b = true := by simp only [List.all_cons, Bool.and_eq_true] at h2; exact h2.1
      have g0 : (a :: b :: v).getD 0 0 = a := rfl
      have g1 : (a :: b :: v).getD (0 + 1) 0 = b := rfl
      unfold turnAt
      rw [g0, g1]
      rcases firstL_iff.1 h1 with rfl | rfl | rfl | rfl <;> rcases turnL_iff.1 hb with rfl | rfl | rfl
      · exact keeps_first h (x := 108) rfl (same_ed [] []).symm
      · exact keeps_first h (x := 101) rfl (same_ec [] []).symm
      · exact Keeps8.refl h
      · exact keeps_first h (x := 101) rfl (same_ld [] []).symm
      · exact Keeps8.refl h
      · exact keeps_first h (x := 108) rfl (same_lr [] []).symm
      · exact keeps_first h (x := 104) rfl (same_hd [] []).symm
      · exact keeps_first h (x := 104) rfl (same_hc [] []).symm
      · exact keeps_first h (x := 104) rfl (same_hr [] []).symm
      · exact keeps_first h (x := 97) rfl (same_ad [] []).symm
      · exact keeps_first h (x := 97) rfl (same_ac [] []).symm
      · exact keeps_first h (x := 97) rfl (same_ar [] []).symm
  | succ j =>
    have hj : j + 1 < r.length := by simpa using hk
    obtain ⟨u, x, y, v, rfl, hu⟩ : ∃ u x y v, r = u ++ (x :: y :: v) ∧ u.length = j :=
      ⟨r.take j, r[j], r[j + 1], r.drop (j + 2), by rw [← List.drop_eq_getElem_cons (by omega), ← List.drop_eq_getElem_cons (by omega), List.take_append_drop], by rw [List.length_take]; omega⟩
    subst hu
    have h2' := h2
    simp only [List.all_append, List.all_cons, Bool.and_eq_true] at h2'
    have hw : okR (u.reverse ++ [a]) = true := okR_turns (show okR [a] = true from h1) _ (by rw [List.all_reverse]; exact h2'.1)
    have g0 : (a :: (u ++ (x :: y :: v))).getD (u.length + 1) 0 = x := by simp [List.getD]
    have g1 : (a :: (u ++ (x :: y :: v))).getD (u.length + 1 + 1) 0 = y := by simp [List.getD]
    have t1 : (a :: (u ++ (x :: y :: v))).take (u.length + 1 + 1) = a :: (u ++ [x]) := by simp [List.take_append, List.take_of_length_le]
    have t0 : (a :: (u ++ (x :: y :: v))).take (u.length + 1) = a :: u := by simp
    have d2 : (a :: (u ++ (x :: y :: v))).drop (u.length + 1 + 2) = v := by simp [List.drop_append]
    unfold turnAt
    rw [g0, g1, t0, t1, d2]
    rcases turnL_iff.1 h2'.2.1 with rfl | rfl | rfl <;> rcases turnL_iff.1 h2'.2.2.1 with rfl | rfl | rfl
    · exact keeps_mid (t := [100, 100]) (t' := []) h rfl (by simp) (same_dd hw).symm
    · exact Keeps8.refl h
    · exact Keeps8.refl h
    · exact Keeps8.refl h
    · have e := keeps_mid (t := [99, 99]) (t' := [99]) h rfl (by simp) (same_cc _).symm
      simpa using e
    · exact Keeps8.refl h
    · exact Keeps8.refl h
    · exact Keeps8.refl h
    · have e := keeps_mid (t := [114, 114]) (t' := [114]) h rfl (by simp) (same_rr hw).symm
      simpa using e
/-- A word made simpler, from a place on below which nothing fits. -/
def simpFrom (l : List UInt8) (k : Nat) : List UInt8 :=
  if h : k + 1 < l.length then (if hn : turnAt l k = l then simpFrom l (k + 1) else simpFrom (turnAt l k) 0) else l
termination_by (l.length, l.length - k)
decreasing_by
  · exact Prod.Lex.right _ (by omega)
  · exact Prod.Lex.left _ _ (turnAt_lt h hn)
theorem simp_stay {l : List UInt8} {k : Nat} (h : k + 1 < l.length) (hn : turnAt l k = l) : simpFrom l k = simpFrom l (k + 1) := by
  conv => lhs; rw [simpFrom]
  rw [dif_pos h, dif_pos hn]
theorem simp_turn {l : List UInt8} {k : Nat} (h : k + 1 < l.length) (hn : ¬ turnAt l k = l) : simpFrom l k = simpFrom (turnAt l k) 0 := by
  conv => lhs; rw [simpFrom]
  rw [dif_pos h, dif_neg hn]
theorem simp_done {l : List UInt8} {k : Nat} (h : ¬ k + 1 < l.length) : simpFrom l k = l := by rw [simpFrom, dif_neg h]
/-- What SimplerRule returns. -/
def simpL (l : List UInt8) : List UInt8 := if ruleB l = true then simpFrom l 0 else []
/-- Nothing fits in a word. -/
def Still8 (l : List UInt8) (k : Nat) : Prop := ∀ j, j < k → j + 1 < l.length → turnAt l j = l
theorem simpFrom_ok (l : List UInt8) (k : Nat) : ruleB l = true → Still8 l k → Keeps8 l (simpFrom l k) ∧ Still8 (simpFrom l k) (simpFrom l k).length := by
  induction l, k using simpFrom.induct with
  | case1 l k h hn ih =>
    intro hl hs
    rw [simp_stay h hn]
    exact ih hl (fun j hj hj2 => by
      rcases Nat.lt_or_ge j k with q | q
      · exact hs j q hj2
      · obtain rfl : j = k := by omega
        exact hn)
  | case2 l k h hn ih =>
    intro hl _
    rw [simp_turn h hn]
    have e := keeps_turn hl h
    have q := ih e.1 (fun j hj => absurd hj (by omega))
    exact ⟨e.trans q.1, q.2⟩
  | case3 l k h =>
    intro hl hs
    rw [simp_done h]
    exact ⟨Keeps8.refl hl, fun j _ hj2 => hs j (by omega) hj2⟩
theorem still_simp {l : List UInt8} (h : Still8 l l.length) : ∀ n k, l.length - k ≤ n → simpFrom l k = l
  | 0, k, hk => simp_done (by omega)
  | n + 1, k, hk => by
    by_cases q : k + 1 < l.length
    · rw [simp_stay q (h k (by omega) q)]; exact still_simp h n (k + 1) (by omega)
    · exact simp_done q
theorem simpL_ok {l : List UInt8} (h : ruleB l = true) : Keeps8 l (simpL l) := by
  rw [simpL, if_pos h]; exact (simpFrom_ok l 0 h (fun j hj => absurd hj (by omega))).1
theorem simpL_still {l : List UInt8} (h : ruleB l = true) : simpL (simpL l) = simpL l := by
  have e := simpFrom_ok l 0 h (fun j hj => absurd hj (by omega))
  have q : simpL l = simpFrom l 0 := if_pos h
  rw [q, simpL, if_pos e.1.1]
  exact still_simp e.2 _ 0 (Nat.le_refl _)
theorem simpL_no {l : List UInt8} (h : ruleB l = false) : simpL l = [] := by rw [simpL, if_neg (by rw [h]; simp)]
theorem simpL_some {l : List UInt8} (h : ruleB l = true) : ¬ simpL l = [] := fun e => by
  have q := (simpL_ok h).1
  rw [e] at q; cases q
/-- Words of a first letter and letters d alone. -/
theorem simp_ds : ∀ (m : Nat) (a : UInt8), firstL a = true → m ≤ 7 → simpFrom (a :: List.replicate m 100) 0 = [if m % 2 = 1 ∧ a = 101 then 108 else if m % 2 = 1 ∧ a = 108 then 101 else a] := fun m a ha hm => by
  have h : ∀ m, m ≤ 7 → ∀ a : UInt8, a = 101 ∨ a = 108 ∨ a = 104 ∨ a = 97 → simpFrom (a :: List.replicate m 100) 0 = [if m % 2 = 1 ∧ a = 101 then 108 else if m % 2 = 1 ∧ a = 108 then 101 else a] := by
    intro m
    induction m with
    | zero => intro _ a ha; rw [simp_done (by simp)]; rcases ha with rfl | rfl | rfl | rfl <;> rfl
    | succ m ih =>
      intro hm a ha
      have hk : 0 + 1 < (a :: List.replicate (m + 1) (100 : UInt8)).length := by simp
      have step : ∀ b : UInt8, turnAt (a :: List.replicate (m + 1) 100) 0 = b :: List.replicate m 100 → simpFrom (a :: List.replicate (m + 1) 100) 0 = simpFrom (b :: List.replicate m 100) 0 := fun b e => by
        rw [simp_turn hk (by rw [e]; intro q; have q := congrArg List.length q; simp at q), e]
      rcases ha with rfl | rfl | rfl | rfl
      · rw [step 108 rfl, ih (by omega) 108 (by simp)]
        rcases Nat.mod_two_eq_zero_or_one m with q | q <;> simp [q, Nat.add_mod]
      · rw [step 101 rfl, ih (by omega) 101 (by simp)]
        rcases Nat.mod_two_eq_zero_or_one m with q | q <;> simp [q, Nat.add_mod]
      · rw [step 104 rfl, ih (by omega) 104 (by simp)]; simp
      · rw [step 97 rfl, ih (by omega) 97 (by simp)]; simp
  exact h m hm a (firstL_iff.1 ha)

end Go.Proofs.Ytkkdolbbioeknaa
