/-
  Chapter 8, the functions on words alone: RuleOk, SimplerRule (spec). No condition but lengths that fit.
-/
import Derived.Test.YtkkdolbbioeknaaStr
import Derived.Test.YtkkdolbbioeknaaRule2
import Derived.Test.YtkkdolbbioeknaaGame
import Derived.BigQuiet
import Derived.Deep.Cut
namespace Go.Proofs.Ytkkdolbbioeknaa
open Go.RowKit


/-- The first k letters are as they must be. -/
def LettersTo (l : List UInt8) (k : Nat) : Prop := ∀ j, j < k → (j = 0 → firstL (l.getD j 0) = true) ∧ (0 < j → turnL (l.getD j 0) = true)
theorem letters_rule {l : List UInt8} (h : LettersTo l l.length) (h1 : 1 ≤ l.length) (h8 : l.length ≤ 8) : ruleB l = true := by
  cases l with
  | nil => simp at h1
  | cons a r =>
    refine ruleB_iff.2 ⟨(h 0 (by simp)).1 rfl, List.all_eq_true.2 fun x hx => ?_, by simpa using h8⟩
    obtain ⟨j, hj, rfl⟩ := List.mem_iff_getElem.1 hx
    have e := (h (j + 1) (by simpa using hj)).2 (by omega)
    simpa [List.getD, hj] using e
theorem rule_letters {l : List UInt8} (h : ruleB l = true) : LettersTo l l.length ∧ 1 ≤ l.length ∧ l.length ≤ 8 := by
  obtain ⟨a, r, rfl, h1, h2, h3⟩ := ruleB_form h
  refine ⟨fun j hj => ⟨fun e => by subst e; exact h1, fun e => ?_⟩, by simp, by simpa using h3⟩
  obtain ⟨i, rfl⟩ : ∃ i, j = i + 1 := ⟨j - 1, by omega⟩
  have hi : i < r.length := by simpa using hj
  have q := List.all_eq_true.1 h2 _ (List.getElem_mem hi)
  simpa [List.getD, hi] using q
theorem first_no {x : UInt8} {v : Int} (h : (x.toNat : Int) = v) (h1 : ¬ v = 101) (h2 : ¬ v = 108) (h3 : ¬ v = 104) (h4 : ¬ v = 97) : ¬ firstL x = true := fun e => by
  rcases firstL_iff.1 e with rfl | rfl | rfl | rfl <;> simp at h <;> omega
theorem turn_no {x : UInt8} {v : Int} (h : (x.toNat : Int) = v) (h1 : ¬ v = 100) (h2 : ¬ v = 99) (h3 : ¬ v = 114) : ¬ turnL x = true := fun e => by
  rcases turnL_iff.1 e with rfl | rfl | rfl <;> simp at h <;> omega
theorem first_yes {x : UInt8} {v : Int} (h : (x.toNat : Int) = v) (e : v = 101 ∨ v = 108 ∨ v = 104 ∨ v = 97) : firstL x = true := by
  rcases e with e | e | e | e
  · rw [byte_is h 101 e]; rfl
  · rw [byte_is h 108 e]; rfl
  · rw [byte_is h 104 e]; rfl
  · rw [byte_is h 97 e]; rfl
theorem turn_yes {x : UInt8} {v : Int} (h : (x.toNat : Int) = v) (e : v = 100 ∨ v = 99 ∨ v = 114) : turnL x = true := by
  rcases e with e | e | e
  · rw [byte_is h 100 e]; rfl
  · rw [byte_is h 99 e]; rfl
  · rw [byte_is h 114 e]; rfl
theorem LettersTo.zero (l : List UInt8) : LettersTo l 0 := fun _ h => absurd h (by omega)
theorem LettersTo.more {l : List UInt8} {k : Nat} (h : LettersTo l k) (h1 : k = 0 → firstL (l.getD k 0) = true) (h2 : 0 < k → turnL (l.getD k 0) = true) : LettersTo l (k + 1) := fun j hj => by
  rcases Nat.lt_or_ge j k with q | q
  · exact h j q
  · obtain rfl : j = k := by omega
    exact ⟨h1, h2⟩

set_option maxRecDepth 10000 in
set_option maxHeartbeats 1000000 in
theorem specRuleOk_any (l : List UInt8) (w : World) (hl : l.length ≤ 1152921504606846976) :
    Calls Try.prog 12 #[.string (S l)] w fun e w' => e = .returned (.bool (ruleB l)) ∧ w = w' := by
  have hS1 := S_size
  have hS2 : ∀ (l : List UInt8) (k : Nat) (h : k < (S l).size), (S l)[k]'h = l[k]'(by rw [S_size] at h; exact h) := fun _ _ h => S_at2 h
  go_enter Try.func12, Try.ntmps12
  go_wp2
  go_loop [3] (fun i => ∃ k : Nat, i = .int .i64 k ∧ (k ≤ l.length) ∧ (LettersTo l k)) (fun i => l.length - (intOf i).toNat)
  case atStart => exact ⟨0, rfl, Nat.zero_le _, LettersTo.zero l⟩
  case round =>
    obtain ⟨k, rfl, hk, hlt⟩ := hrel
    have HLT := Lib.hid hlt
    clear hlt
    by_cases hlt0 : k < l.length
    · have v1_i : (k : Int) < (l.length : Int) := by omega
      have v1_j : (0 : Int) ≤ (k : Int) := by omega
      have v1_k : k < l.length := by omega
      have bv1_ := byte_bd (l[k]'v1_k)
      obtain ⟨v1_, hv1_⟩ : ∃ v : Int, (((l[k]'v1_k).toNat : Nat) : Int) = v := ⟨_, rfl⟩
      rw [hv1_] at bv1_
      obtain ⟨bv1_1, bv1_2⟩ := bv1_
      have Gv1_ : Hid (((l.getD k 0).toNat : Int) = v1_) := by show _ = _; rw [getD_byte l v1_k]; exact hv1_
      by_cases h2_ : v1_ = 101
      · have h2_b : (v1_ == 101) = true := by simpa using h2_
        have h2_n : (v1_ != 101) = false := by simpa using h2_
        have h2_le : v1_ ≤ 101 := by omega
        have h2_ge : 101 ≤ v1_ := by omega
        have Hh2_ := Lib.hid h2_
        clear h2_
        have h3_ : ¬ (v1_ = 100) := by omega
        have h3_b : (v1_ == 100) = false := by simpa using h3_
        have h3_n : (v1_ != 100) = true := by simpa using h3_
        have h4_ : ¬ (v1_ = 99) := by omega
        have h4_b : (v1_ == 99) = false := by simpa using h4_
        have h4_n : (v1_ != 99) = true := by simpa using h4_
        have h5_ : ¬ (v1_ = 114) := by omega
        have h5_b : (v1_ == 114) = false := by simpa using h5_
        have h5_n : (v1_ != 114) = true := by simpa using h5_
        by_cases h6_ : (k : Int) = 0
        · have h6_b : ((k : Int) == 0) = true := by simpa using h6_
          have h6_n : ((k : Int) != 0) = false := by simpa using h6_
          have h6_le : (k : Int) ≤ 0 := by omega
          have h6_ge : 0 ≤ (k : Int) := by omega
          have Hh6_ := Lib.hid h6_
          clear h6_
          have h7_ : ¬ ((k : Int) > 0) := by omega
          have h7_d : decide ((k : Int) > 0) = false := decide_eq_false h7_
          have h7_m : decide (0 < k) = false := decide_eq_false (by omega)
          have h7_o : decide ((0 : Int) < (k : Int)) = false := decide_eq_false (by omega)
          go_wp2
          go_round
          case rel => exact ⟨k + 1, by go_num, by omega, HLT.out.more (fun e => by first | exact first_yes Gv1_.out (by omega) | (exfalso; omega)) (fun e => by first | exact turn_yes Gv1_.out (by omega) | (exfalso; omega))⟩
          case measure => simp [intOf] <;> omega
        · have h6_b : ((k : Int) == 0) = false := by simpa using h6_
          have h6_n : ((k : Int) != 0) = true := by simpa using h6_
          have h7_ : (k : Int) > 0 := by omega
          have h7_d : decide ((k : Int) > 0) = true := decide_eq_true h7_
          have h7_m : decide (0 < k) = true := decide_eq_true (by omega)
          have h7_o : decide ((0 : Int) < (k : Int)) = true := decide_eq_true (by omega)
          go_wp2
          go_ret
          exact ⟨ret_bool (by symm; rw [Bool.eq_false_iff]; intro q; have q2 := (rule_letters q).1 k (by omega); first | exact first_no Gv1_.out (by omega) (by omega) (by omega) (by omega) (q2.1 (by omega)) | exact turn_no Gv1_.out (by omega) (by omega) (by omega) (q2.2 (by omega))), rfl⟩
      · have h2_b : (v1_ == 101) = false := by simpa using h2_
        have h2_n : (v1_ != 101) = true := by simpa using h2_
        by_cases h3_ : v1_ = 108
        · have h3_b : (v1_ == 108) = true := by simpa using h3_
          have h3_n : (v1_ != 108) = false := by simpa using h3_
          have h3_le : v1_ ≤ 108 := by omega
          have h3_ge : 108 ≤ v1_ := by omega
          have Hh3_ := Lib.hid h3_
          clear h3_
          have h4_ : ¬ (v1_ = 100) := by omega
          have h4_b : (v1_ == 100) = false := by simpa using h4_
          have h4_n : (v1_ != 100) = true := by simpa using h4_
          have h5_ : ¬ (v1_ = 99) := by omega
          have h5_b : (v1_ == 99) = false := by simpa using h5_
          have h5_n : (v1_ != 99) = true := by simpa using h5_
          have h6_ : ¬ (v1_ = 114) := by omega
          have h6_b : (v1_ == 114) = false := by simpa using h6_
          have h6_n : (v1_ != 114) = true := by simpa using h6_
          by_cases h7_ : (k : Int) = 0
          · have h7_b : ((k : Int) == 0) = true := by simpa using h7_
            have h7_n : ((k : Int) != 0) = false := by simpa using h7_
            have h7_le : (k : Int) ≤ 0 := by omega
            have h7_ge : 0 ≤ (k : Int) := by omega
            have Hh7_ := Lib.hid h7_
            clear h7_
            have h8_ : ¬ ((k : Int) > 0) := by omega
            have h8_d : decide ((k : Int) > 0) = false := decide_eq_false h8_
            have h8_m : decide (0 < k) = false := decide_eq_false (by omega)
            have h8_o : decide ((0 : Int) < (k : Int)) = false := decide_eq_false (by omega)
            go_wp2
            go_round
            case rel => exact ⟨k + 1, by go_num, by omega, HLT.out.more (fun e => by first | exact first_yes Gv1_.out (by omega) | (exfalso; omega)) (fun e => by first | exact turn_yes Gv1_.out (by omega) | (exfalso; omega))⟩
            case measure => simp [intOf] <;> omega
          · have h7_b : ((k : Int) == 0) = false := by simpa using h7_
            have h7_n : ((k : Int) != 0) = true := by simpa using h7_
            have h8_ : (k : Int) > 0 := by omega
            have h8_d : decide ((k : Int) > 0) = true := decide_eq_true h8_
            have h8_m : decide (0 < k) = true := decide_eq_true (by omega)
            have h8_o : decide ((0 : Int) < (k : Int)) = true := decide_eq_true (by omega)
            go_wp2
            go_ret
            exact ⟨ret_bool (by symm; rw [Bool.eq_false_iff]; intro q; have q2 := (rule_letters q).1 k (by omega); first | exact first_no Gv1_.out (by omega) (by omega) (by omega) (by omega) (q2.1 (by omega)) | exact turn_no Gv1_.out (by omega) (by omega) (by omega) (q2.2 (by omega))), rfl⟩
        · have h3_b : (v1_ == 108) = false := by simpa using h3_
          have h3_n : (v1_ != 108) = true := by simpa using h3_
          by_cases h4_ : v1_ = 104
          · have h4_b : (v1_ == 104) = true := by simpa using h4_
            have h4_n : (v1_ != 104) = false := by simpa using h4_
            have h4_le : v1_ ≤ 104 := by omega
            have h4_ge : 104 ≤ v1_ := by omega
            have Hh4_ := Lib.hid h4_
            clear h4_
            have h5_ : ¬ (v1_ = 100) := by omega
            have h5_b : (v1_ == 100) = false := by simpa using h5_
            have h5_n : (v1_ != 100) = true := by simpa using h5_
            have h6_ : ¬ (v1_ = 99) := by omega
            have h6_b : (v1_ == 99) = false := by simpa using h6_
            have h6_n : (v1_ != 99) = true := by simpa using h6_
            have h7_ : ¬ (v1_ = 114) := by omega
            have h7_b : (v1_ == 114) = false := by simpa using h7_
            have h7_n : (v1_ != 114) = true := by simpa using h7_
            by_cases h8_ : (k : Int) = 0
            · have h8_b : ((k : Int) == 0) = true := by simpa using h8_
              have h8_n : ((k : Int) != 0) = false := by simpa using h8_
              have h8_le : (k : Int) ≤ 0 := by omega
              have h8_ge : 0 ≤ (k : Int) := by omega
              have Hh8_ := Lib.hid h8_
              clear h8_
              have h9_ : ¬ ((k : Int) > 0) := by omega
              have h9_d : decide ((k : Int) > 0) = false := decide_eq_false h9_
              have h9_m : decide (0 < k) = false := decide_eq_false (by omega)
              have h9_o : decide ((0 : Int) < (k : Int)) = false := decide_eq_false (by omega)
              go_wp2
              go_round
              case rel => exact ⟨k + 1, by go_num, by omega, HLT.out.more (fun e => by first | exact first_yes Gv1_.out (by omega) | (exfalso; omega)) (fun e => by first | exact turn_yes Gv1_.out (by omega) | (exfalso; omega))⟩
              case measure => simp [intOf] <;> omega
            · have h8_b : ((k : Int) == 0) = false := by simpa using h8_
              have h8_n : ((k : Int) != 0) = true := by simpa using h8_
              have h9_ : (k : Int) > 0 := by omega
              have h9_d : decide ((k : Int) > 0) = true := decide_eq_true h9_
              have h9_m : decide (0 < k) = true := decide_eq_true (by omega)
              have h9_o : decide ((0 : Int) < (k : Int)) = true := decide_eq_true (by omega)
              go_wp2
              go_ret
              exact ⟨ret_bool (by symm; rw [Bool.eq_false_iff]; intro q; have q2 := (rule_letters q).1 k (by omega); first | exact first_no Gv1_.out (by omega) (by omega) (by omega) (by omega) (q2.1 (by omega)) | exact turn_no Gv1_.out (by omega) (by omega) (by omega) (q2.2 (by omega))), rfl⟩
          · have h4_b : (v1_ == 104) = false := by simpa using h4_
            have h4_n : (v1_ != 104) = true := by simpa using h4_
            by_cases h5_ : v1_ = 100
            · have h5_b : (v1_ == 100) = true := by simpa using h5_
              have h5_n : (v1_ != 100) = false := by simpa using h5_
              have h5_le : v1_ ≤ 100 := by omega
              have h5_ge : 100 ≤ v1_ := by omega
              have Hh5_ := Lib.hid h5_
              clear h5_
              by_cases h6_ : (k : Int) = 0
              · have h6_b : ((k : Int) == 0) = true := by simpa using h6_
                have h6_n : ((k : Int) != 0) = false := by simpa using h6_
                have h6_le : (k : Int) ≤ 0 := by omega
                have h6_ge : 0 ≤ (k : Int) := by omega
                have Hh6_ := Lib.hid h6_
                clear h6_
                have h7_ : ¬ (v1_ = 97) := by omega
                have h7_b : (v1_ == 97) = false := by simpa using h7_
                have h7_n : (v1_ != 97) = true := by simpa using h7_
                go_wp2
                go_ret
                exact ⟨ret_bool (by symm; rw [Bool.eq_false_iff]; intro q; have q2 := (rule_letters q).1 k (by omega); first | exact first_no Gv1_.out (by omega) (by omega) (by omega) (by omega) (q2.1 (by omega)) | exact turn_no Gv1_.out (by omega) (by omega) (by omega) (q2.2 (by omega))), rfl⟩
              · have h6_b : ((k : Int) == 0) = false := by simpa using h6_
                have h6_n : ((k : Int) != 0) = true := by simpa using h6_
                have h7_ : (k : Int) > 0 := by omega
                have h7_d : decide ((k : Int) > 0) = true := decide_eq_true h7_
                have h7_m : decide (0 < k) = true := decide_eq_true (by omega)
                have h7_o : decide ((0 : Int) < (k : Int)) = true := decide_eq_true (by omega)
                go_wp2
                go_round
                case rel => exact ⟨k + 1, by go_num, by omega, HLT.out.more (fun e => by first | exact first_yes Gv1_.out (by omega) | (exfalso; omega)) (fun e => by first | exact turn_yes Gv1_.out (by omega) | (exfalso; omega))⟩
                case measure => simp [intOf] <;> omega
            · have h5_b : (v1_ == 100) = false := by simpa using h5_
              have h5_n : (v1_ != 100) = true := by simpa using h5_
              by_cases h6_ : v1_ = 99
              · have h6_b : (v1_ == 99) = true := by simpa using h6_
                have h6_n : (v1_ != 99) = false := by simpa using h6_
                have h6_le : v1_ ≤ 99 := by omega
                have h6_ge : 99 ≤ v1_ := by omega
                have Hh6_ := Lib.hid h6_
                clear h6_
                by_cases h7_ : (k : Int) = 0
                · have h7_b : ((k : Int) == 0) = true := by simpa using h7_
                  have h7_n : ((k : Int) != 0) = false := by simpa using h7_
                  have h7_le : (k : Int) ≤ 0 := by omega
                  have h7_ge : 0 ≤ (k : Int) := by omega
                  have Hh7_ := Lib.hid h7_
                  clear h7_
                  have h8_ : ¬ (v1_ = 97) := by omega
                  have h8_b : (v1_ == 97) = false := by simpa using h8_
                  have h8_n : (v1_ != 97) = true := by simpa using h8_
                  go_wp2
                  go_ret
                  exact ⟨ret_bool (by symm; rw [Bool.eq_false_iff]; intro q; have q2 := (rule_letters q).1 k (by omega); first | exact first_no Gv1_.out (by omega) (by omega) (by omega) (by omega) (q2.1 (by omega)) | exact turn_no Gv1_.out (by omega) (by omega) (by omega) (q2.2 (by omega))), rfl⟩
                · have h7_b : ((k : Int) == 0) = false := by simpa using h7_
                  have h7_n : ((k : Int) != 0) = true := by simpa using h7_
                  have h8_ : (k : Int) > 0 := by omega
                  have h8_d : decide ((k : Int) > 0) = true := decide_eq_true h8_
                  have h8_m : decide (0 < k) = true := decide_eq_true (by omega)
                  have h8_o : decide ((0 : Int) < (k : Int)) = true := decide_eq_true (by omega)
                  go_wp2
                  go_round
                  case rel => exact ⟨k + 1, by go_num, by omega, HLT.out.more (fun e => by first | exact first_yes Gv1_.out (by omega) | (exfalso; omega)) (fun e => by first | exact turn_yes Gv1_.out (by omega) | (exfalso; omega))⟩
                  case measure => simp [intOf] <;> omega
              · have h6_b : (v1_ == 99) = false := by simpa using h6_
                have h6_n : (v1_ != 99) = true := by simpa using h6_
                by_cases h7_ : (k : Int) = 0
                · have h7_b : ((k : Int) == 0) = true := by simpa using h7_
                  have h7_n : ((k : Int) != 0) = false := by simpa using h7_
                  have h7_le : (k : Int) ≤ 0 := by omega
                  have h7_ge : 0 ≤ (k : Int) := by omega
                  have Hh7_ := Lib.hid h7_
                  clear h7_
                  by_cases h8_ : v1_ = 97
                  · have h8_b : (v1_ == 97) = true := by simpa using h8_
                    have h8_n : (v1_ != 97) = false := by simpa using h8_
                    have h8_le : v1_ ≤ 97 := by omega
                    have h8_ge : 97 ≤ v1_ := by omega
                    have Hh8_ := Lib.hid h8_
                    clear h8_
                    have h9_ : ¬ ((k : Int) > 0) := by omega
                    have h9_d : decide ((k : Int) > 0) = false := decide_eq_false h9_
                    have h9_m : decide (0 < k) = false := decide_eq_false (by omega)
                    have h9_o : decide ((0 : Int) < (k : Int)) = false := decide_eq_false (by omega)
                    go_wp2
                    go_round
                    case rel => exact ⟨k + 1, by go_num, by omega, HLT.out.more (fun e => by first | exact first_yes Gv1_.out (by omega) | (exfalso; omega)) (fun e => by first | exact turn_yes Gv1_.out (by omega) | (exfalso; omega))⟩
                    case measure => simp [intOf] <;> omega
                  · have h8_b : (v1_ == 97) = false := by simpa using h8_
                    have h8_n : (v1_ != 97) = true := by simpa using h8_
                    go_wp2
                    go_ret
                    exact ⟨ret_bool (by symm; rw [Bool.eq_false_iff]; intro q; have q2 := (rule_letters q).1 k (by omega); first | exact first_no Gv1_.out (by omega) (by omega) (by omega) (by omega) (q2.1 (by omega)) | exact turn_no Gv1_.out (by omega) (by omega) (by omega) (q2.2 (by omega))), rfl⟩
                · have h7_b : ((k : Int) == 0) = false := by simpa using h7_
                  have h7_n : ((k : Int) != 0) = true := by simpa using h7_
                  have h8_ : (k : Int) > 0 := by omega
                  have h8_d : decide ((k : Int) > 0) = true := decide_eq_true h8_
                  have h8_m : decide (0 < k) = true := decide_eq_true (by omega)
                  have h8_o : decide ((0 : Int) < (k : Int)) = true := decide_eq_true (by omega)
                  by_cases h9_ : v1_ = 114
                  · have h9_b : (v1_ == 114) = true := by simpa using h9_
                    have h9_n : (v1_ != 114) = false := by simpa using h9_
                    have h9_le : v1_ ≤ 114 := by omega
                    have h9_ge : 114 ≤ v1_ := by omega
                    have Hh9_ := Lib.hid h9_
                    clear h9_
                    go_wp2
                    go_round
                    case rel => exact ⟨k + 1, by go_num, by omega, HLT.out.more (fun e => by first | exact first_yes Gv1_.out (by omega) | (exfalso; omega)) (fun e => by first | exact turn_yes Gv1_.out (by omega) | (exfalso; omega))⟩
                    case measure => simp [intOf] <;> omega
                  · have h9_b : (v1_ == 114) = false := by simpa using h9_
                    have h9_n : (v1_ != 114) = true := by simpa using h9_
                    go_wp2
                    go_ret
                    exact ⟨ret_bool (by symm; rw [Bool.eq_false_iff]; intro q; have q2 := (rule_letters q).1 k (by omega); first | exact first_no Gv1_.out (by omega) (by omega) (by omega) (by omega) (q2.1 (by omega)) | exact turn_no Gv1_.out (by omega) (by omega) (by omega) (q2.2 (by omega))), rfl⟩
    · obtain rfl : k = l.length := by omega
      by_cases h1_ : 1 ≤ (l.length : Int) ∧ (l.length : Int) ≤ 8
      · have H1_ := Lib.hid h1_
        clear h1_
        go_wp2_with fail
        refine (l1In_yes _ _ _ _ H1_.out).mono ?_
        rintro e w' ⟨rfl, rfl⟩
        go_wp2
        go_ret
        exact ⟨ret_bool ((letters_rule HLT.out (by have e := H1_.out; omega) (by have e := H1_.out; omega)).symm), rfl⟩
      · have H1_ := Lib.hid h1_
        clear h1_
        go_wp2_with fail
        refine (l1In_no _ _ _ _ H1_.out).mono ?_
        rintro e w' ⟨rfl, rfl⟩
        go_wp2
        go_ret
        exact ⟨ret_bool (by symm; rw [Bool.eq_false_iff]; intro q; have q2 := (rule_letters q).2; exact H1_.out (by omega)), rfl⟩

theorem cut_len (n : List UInt8) (a b : Nat) : (n.take a ++ n.drop b).length = min a n.length + (n.length - b) := by simp
theorem cons_len (x : UInt8) (n : List UInt8) (b : Nat) : (x :: n.drop b).length = n.length - b + 1 := by simp
/-- How long a text is. -/
def lenV : Value → Nat
  | .string s => s.size
  | _ => 0
theorem lenV_S (l : List UInt8) : lenV (.string (S l)) = l.length := S_size l
theorem turn_is {n : List UInt8} {k : Nat} {v u : Int} (hv : ((n.getD k 0).toNat : Int) = v) (hu : ((n.getD (k + 1) 0).toNat : Int) = u) :
    turnAt n k = if (v = 101 ∧ u = 99) ∨ (v = 108 ∧ u = 114) ∨ v = 104 ∨ v = 97 then n.take (k + 1) ++ n.drop (k + 2)
      else if v = 101 ∧ u = 100 then 108 :: n.drop (k + 2) else if v = 108 ∧ u = 100 then 101 :: n.drop (k + 2)
      else if v = 100 ∧ u = 100 then n.take k ++ n.drop (k + 2) else if v = u then n.take (k + 1) ++ n.drop (k + 2) else n := by
  have e : ∀ (x : UInt8) (m : UInt8) (y : Int), ((x.toNat : Nat) : Int) = y → (x = m ↔ y = ((m.toNat : Nat) : Int)) := fun x m y h => ⟨fun q => by rw [← h, q], fun q => byte_is h m q⟩
  have e2 : n.getD k 0 = n.getD (k + 1) 0 ↔ v = u := ⟨fun q => by rw [← hv, ← hu, q], fun q => byte_is hv _ (by rw [q, ← hu])⟩
  unfold turnAt
  simp only [e _ 101 v hv, e _ 108 v hv, e _ 104 v hv, e _ 97 v hv, e _ 100 v hv, e _ 99 u hu, e _ 114 u hu, e _ 100 u hu, e2]
  rfl
theorem simp_step {n m l : List UInt8} {k : Nat} (hk : k + 1 < n.length) (h : simpFrom n k = simpL l) (ht : turnAt n k = m) (hn : m.length < n.length) : simpFrom m 0 = simpL l := by
  rw [← h, simp_turn hk (by rw [ht]; intro q; rw [q] at hn; omega), ht]
theorem simp_next {n l : List UInt8} {k : Nat} (hk : k + 1 < n.length) (h : simpFrom n k = simpL l) (ht : turnAt n k = n) : simpFrom n (k + 1) = simpL l := by rw [← h, simp_stay hk ht]

set_option maxRecDepth 10000 in
set_option maxHeartbeats 2000000 in
theorem specSimplerRule_yes (l : List UInt8) (w : World) (hl : l.length ≤ 1152921504606846976) (hrb : ruleB l = true) :
    Calls Try.prog 21 #[.string (S l)] w fun e w' => e = .returned (.string (S (simpL l))) ∧ Below w.heap.size w w' := by
  have hS1 := S_size
  have hS2 : ∀ (l : List UInt8) (k : Nat) (h : k < (S l).size), (S l)[k]'h = l[k]'(by rw [S_size] at h; exact h) := fun _ _ h => S_at2 h
  have hK0 : ({ data := #[] } : ByteArray) = S [] := rfl
  have hK1 : ({ data := #[101] } : ByteArray) = S [101] := rfl
  have hK2 : ({ data := #[108] } : ByteArray) = S [108] := rfl
  have HRB := Lib.hid hrb
  have hl8 := (rule_letters hrb).2.2
  clear hrb
  go_enter Try.func21, Try.ntmps21
  go_wp2_with fail
  refine (specRuleOk_any l _ (by omega)).mono ?_
  rintro e w' ⟨he, rfl⟩
  rw [HRB.out] at he
  subst he
  go_wp2
  go_loopw [3, 4] (fun s i wr => ∃ n : List UInt8, ∃ k : Nat, s = .string (S n) ∧ i = .int .i64 k ∧ (ruleB n = true) ∧ (n.length ≤ l.length) ∧ (k ≤ n.length) ∧ (simpFrom n k = simpL l) ∧ Below w.heap.size w wr ∧ w.heap.size ≤ wr.heap.size) (fun s i _ => lenV s * 17 + (lenV s - (intOf i).toNat))
  case atStart => exact ⟨l, 0, rfl, rfl, HRB.out, Nat.le_refl _, Nat.zero_le _, (if_pos HRB.out).symm, (Below.refl w.heap.size w), (by first | omega | (simp; omega) | simp)⟩
  case round =>
    obtain ⟨n, k, rfl, rfl, hn, hn8, hk, hsf, k2_, k3_⟩ := hrel
    obtain ⟨w1, rfl⟩ : ∃ x, x = wr := ⟨_, rfl⟩
    have HSF := Lib.hid hsf
    clear hsf
    by_cases hlt0 : k + 1 < n.length
    · obtain ⟨k1, hk1⟩ : ∃ m : Nat, m = k + 1 := ⟨_, rfl⟩
      obtain ⟨k2, hk2⟩ : ∃ m : Nat, m = k + 2 := ⟨_, rfl⟩
      have hx1 : (k : Int) + 1 = (k1 : Int) := by omega
      have hx2 : (k : Int) + 2 = (k2 : Int) := by omega
      have hk1a : k1 ≤ k + 1 := by omega
      have hk1b : k + 1 ≤ k1 := by omega
      have hk2a : k2 ≤ k + 2 := by omega
      have hk2b : k + 2 ≤ k2 := by omega
      have HK1 := Lib.hid hk1
      have HK2 := Lib.hid hk2
      clear hk1 hk2
      have hk1l : (k1 : Int) < (n.length : Int) := by omega
      have v4_i : (k : Int) < (n.length : Int) := by omega
      have v4_j : (0 : Int) ≤ (k : Int) := by omega
      have v4_k : k < n.length := by omega
      have bv4_ := byte_bd (n[k]'v4_k)
      obtain ⟨v4_, hv4_⟩ : ∃ v : Int, (((n[k]'v4_k).toNat : Nat) : Int) = v := ⟨_, rfl⟩
      rw [hv4_] at bv4_
      obtain ⟨bv4_1, bv4_2⟩ := bv4_
      have Gv4_ : Hid (((n.getD k 0).toNat : Int) = v4_) := by show _ = _; rw [getD_byte n v4_k]; exact hv4_
      have v5_i : (k1 : Int) < (n.length : Int) := by omega
      have v5_j : (0 : Int) ≤ (k1 : Int) := by omega
      have v5_k : k1 < n.length := by omega
      have bv5_ := byte_bd (n[k1]'v5_k)
      obtain ⟨v5_, hv5_⟩ : ∃ v : Int, (((n[k1]'v5_k).toNat : Nat) : Int) = v := ⟨_, rfl⟩
      rw [hv5_] at bv5_
      obtain ⟨bv5_1, bv5_2⟩ := bv5_
      have Gv5_ : Hid (((n.getD k1 0).toNat : Int) = v5_) := by show _ = _; rw [getD_byte n v5_k]; exact hv5_
      by_cases h6_ : v4_ = 101
      · have h6_b : (v4_ == 101) = true := by simpa using h6_
        have h6_n : (v4_ != 101) = false := by simpa using h6_
        have h6_le : v4_ ≤ 101 := by omega
        have h6_ge : 101 ≤ v4_ := by omega
        have Hh6_ := Lib.hid h6_
        clear h6_
        by_cases h7_ : v5_ = 99
        · have h7_b : (v5_ == 99) = true := by simpa using h7_
          have h7_n : (v5_ != 99) = false := by simpa using h7_
          have h7_le : v5_ ≤ 99 := by omega
          have h7_ge : 99 ≤ v5_ := by omega
          have Hh7_ := Lib.hid h7_
          clear h7_
          have hx8_l : (k1 : Int) ≤ (n.length : Int) := by omega
          have hx8_g : (0 : Int) ≤ (k1 : Int) := by omega
          have hx8_ := S_front (l := n) (m := k1)
          have hx9_l : (k2 : Int) ≤ (n.length : Int) := by omega
          have hx9_g : (0 : Int) ≤ (k2 : Int) := by omega
          have hx9_ : (S n).extract k2 n.length = S (n.drop k2) := S_back rfl
          have hx10_ : Op.stringOp .add (S (n.take k1)) (S (n.drop k2)) = pure (.string (S ((n.take k1) ++ (n.drop k2)))) := S_add (by simp; omega)
          have hw11_ : IntKind.i64.wrap (k1 : Int) = (k1 : Int) := IntWalk.i64_in _ (by omega)
          have hw12_ : IntKind.i64.wrap (k2 : Int) = (k2 : Int) := IntWalk.i64_in _ (by omega)
          go_wp2
          go_quiet (fail)
          obtain ⟨w13, hw13⟩ : ∃ x, x = w1.drewN nq := ⟨_, rfl⟩
          have hb14_ : Below w1.heap.size w1 w13 := by rw [hw13]; exact below_drewN (Below.refl _ _) _
          rw [← hw13]
          clear hw13
          clear hw11_ hw12_
          have z16_ := hb14_.size
          have B17_ := k2_.trans (hb14_.mono (by first | omega | (simp; omega) | simp))
          clear hb14_
          have h18_ : ¬ (((n.take k1) ++ (n.drop k2)) = n) := fun e => by have q := congrArg List.length e; rw [cut_len] at q; omega
          have h18_b : ((S ((n.take k1) ++ (n.drop k2))).toList == (S n).toList) = false := by rw [S_eq]; exact decide_eq_false h18_
          go_wp2
          go_roundw
          case rel => exact ⟨((n.take k1) ++ (n.drop k2)), 0, by rfl, by go_num, by (have e := (keeps_turn (k := k) hn (by omega)).1; rw [show turnAt n k = ((n.take k1) ++ (n.drop k2)) from by (have q1 := HK1.out; have q2 := HK2.out; subst q1; subst q2; rw [turn_is (v := v4_) (u := v5_) Gv4_.out Gv5_.out]; (repeat (first | rw [if_pos (by omega)] | rw [if_neg (by omega)])); (try rfl))] at e; exact e), by (rw [cut_len]; omega), by omega, simp_step (by omega) HSF.out (by have q1 := HK1.out; have q2 := HK2.out; subst q1; subst q2; rw [turn_is (v := v4_) (u := v5_) Gv4_.out Gv5_.out]; (repeat (first | rw [if_pos (by omega)] | rw [if_neg (by omega)])); (try rfl)) (by (rw [cut_len]; omega)), B17_, (by first | omega | (simp; omega) | simp)⟩
          case measure => simp [intOf, lenV_S] <;> omega
        · have h7_b : (v5_ == 99) = false := by simpa using h7_
          have h7_n : (v5_ != 99) = true := by simpa using h7_
          have h8_ : ¬ (v4_ = 108) := by omega
          have h8_b : (v4_ == 108) = false := by simpa using h8_
          have h8_n : (v4_ != 108) = true := by simpa using h8_
          have h9_ : ¬ (v4_ = 104) := by omega
          have h9_b : (v4_ == 104) = false := by simpa using h9_
          have h9_n : (v4_ != 104) = true := by simpa using h9_
          have h10_ : ¬ (v4_ = 97) := by omega
          have h10_b : (v4_ == 97) = false := by simpa using h10_
          have h10_n : (v4_ != 97) = true := by simpa using h10_
          have h11_ : v4_ = 101 := by omega
          have h11_b : (v4_ == 101) = true := by simpa using h11_
          have h11_n : (v4_ != 101) = false := by simpa using h11_
          have h11_le : v4_ ≤ 101 := by omega
          have h11_ge : 101 ≤ v4_ := by omega
          have Hh11_ := Lib.hid h11_
          clear h11_
          by_cases h12_ : v5_ = 100
          · have h12_b : (v5_ == 100) = true := by simpa using h12_
            have h12_n : (v5_ != 100) = false := by simpa using h12_
            have h12_le : v5_ ≤ 100 := by omega
            have h12_ge : 100 ≤ v5_ := by omega
            have Hh12_ := Lib.hid h12_
            clear h12_
            have hx13_l : (k2 : Int) ≤ (n.length : Int) := by omega
            have hx13_g : (0 : Int) ≤ (k2 : Int) := by omega
            have hx13_ : (S n).extract k2 n.length = S (n.drop k2) := S_back rfl
            have hx14_ : Op.stringOp .add (S ([108] : List UInt8)) (S (n.drop k2)) = pure (.string (S (108 :: (n.drop k2)))) := S_add (by simp; omega)
            have h15_ : ¬ ((108 :: (n.drop k2)) = n) := fun e => by have q := congrArg List.length e; rw [cons_len] at q; omega
            have h15_b : ((S (108 :: (n.drop k2))).toList == (S n).toList) = false := by rw [S_eq]; exact decide_eq_false h15_
            go_wp2
            go_roundw
            case rel => exact ⟨(108 :: (n.drop k2)), 0, by rfl, by go_num, by (have e := (keeps_turn (k := k) hn (by omega)).1; rw [show turnAt n k = (108 :: (n.drop k2)) from by (have q1 := HK1.out; have q2 := HK2.out; subst q1; subst q2; rw [turn_is (v := v4_) (u := v5_) Gv4_.out Gv5_.out]; (repeat (first | rw [if_pos (by omega)] | rw [if_neg (by omega)])); (try rfl))] at e; exact e), by (rw [cons_len]; omega), by omega, simp_step (by omega) HSF.out (by have q1 := HK1.out; have q2 := HK2.out; subst q1; subst q2; rw [turn_is (v := v4_) (u := v5_) Gv4_.out Gv5_.out]; (repeat (first | rw [if_pos (by omega)] | rw [if_neg (by omega)])); (try rfl)) (by (rw [cons_len]; omega)), k2_, (by first | omega | (simp; omega) | simp)⟩
            case measure => simp [intOf, lenV_S] <;> omega
          · have h12_b : (v5_ == 100) = false := by simpa using h12_
            have h12_n : (v5_ != 100) = true := by simpa using h12_
            have h13_ : ¬ (v4_ = 108) := by omega
            have h13_b : (v4_ == 108) = false := by simpa using h13_
            have h13_n : (v4_ != 108) = true := by simpa using h13_
            have h14_ : ¬ (v4_ = 100) := by omega
            have h14_b : (v4_ == 100) = false := by simpa using h14_
            have h14_n : (v4_ != 100) = true := by simpa using h14_
            by_cases h15_ : v4_ = v5_
            · have h15_b : (v4_ == v5_) = true := by simpa using h15_
              have h15_n : (v4_ != v5_) = false := by simpa using h15_
              have h15_le : v4_ ≤ v5_ := by omega
              have h15_ge : v5_ ≤ v4_ := by omega
              have Hh15_ := Lib.hid h15_
              clear h15_
              have hx16_l : (k1 : Int) ≤ (n.length : Int) := by omega
              have hx16_g : (0 : Int) ≤ (k1 : Int) := by omega
              have hx16_ := S_front (l := n) (m := k1)
              have hx17_l : (k2 : Int) ≤ (n.length : Int) := by omega
              have hx17_g : (0 : Int) ≤ (k2 : Int) := by omega
              have hx17_ : (S n).extract k2 n.length = S (n.drop k2) := S_back rfl
              have hx18_ : Op.stringOp .add (S (n.take k1)) (S (n.drop k2)) = pure (.string (S ((n.take k1) ++ (n.drop k2)))) := S_add (by simp; omega)
              have hw19_ : IntKind.i64.wrap (k1 : Int) = (k1 : Int) := IntWalk.i64_in _ (by omega)
              have hw20_ : IntKind.i64.wrap (k2 : Int) = (k2 : Int) := IntWalk.i64_in _ (by omega)
              go_wp2
              go_quiet (fail)
              obtain ⟨w21, hw21⟩ : ∃ x, x = w1.drewN nq := ⟨_, rfl⟩
              have hb22_ : Below w1.heap.size w1 w21 := by rw [hw21]; exact below_drewN (Below.refl _ _) _
              rw [← hw21]
              clear hw21
              clear hw19_ hw20_
              have z24_ := hb22_.size
              have B25_ := k2_.trans (hb22_.mono (by first | omega | (simp; omega) | simp))
              clear hb22_
              have h26_ : ¬ (((n.take k1) ++ (n.drop k2)) = n) := fun e => by have q := congrArg List.length e; rw [cut_len] at q; omega
              have h26_b : ((S ((n.take k1) ++ (n.drop k2))).toList == (S n).toList) = false := by rw [S_eq]; exact decide_eq_false h26_
              go_wp2
              go_roundw
              case rel => exact ⟨((n.take k1) ++ (n.drop k2)), 0, by rfl, by go_num, by (have e := (keeps_turn (k := k) hn (by omega)).1; rw [show turnAt n k = ((n.take k1) ++ (n.drop k2)) from by (have q1 := HK1.out; have q2 := HK2.out; subst q1; subst q2; rw [turn_is (v := v4_) (u := v5_) Gv4_.out Gv5_.out]; (repeat (first | rw [if_pos (by omega)] | rw [if_neg (by omega)])); (try rfl))] at e; exact e), by (rw [cut_len]; omega), by omega, simp_step (by omega) HSF.out (by have q1 := HK1.out; have q2 := HK2.out; subst q1; subst q2; rw [turn_is (v := v4_) (u := v5_) Gv4_.out Gv5_.out]; (repeat (first | rw [if_pos (by omega)] | rw [if_neg (by omega)])); (try rfl)) (by (rw [cut_len]; omega)), B25_, (by first | omega | (simp; omega) | simp)⟩
              case measure => simp [intOf, lenV_S] <;> omega
            · have h15_b : (v4_ == v5_) = false := by simpa using h15_
              have h15_n : (v4_ != v5_) = true := by simpa using h15_
              go_wp2
              go_roundw
              case rel => exact ⟨n, k1, rfl, by go_num, hn, hn8, by omega, by rw [HK1.out]; exact simp_next (by omega) HSF.out (by have q1 := HK1.out; have q2 := HK2.out; subst q1; subst q2; rw [turn_is (v := v4_) (u := v5_) Gv4_.out Gv5_.out]; (repeat (first | rw [if_pos (by omega)] | rw [if_neg (by omega)])); (try rfl)), k2_, (by first | omega | (simp; omega) | simp)⟩
              case measure => simp [intOf, lenV_S] <;> omega
      · have h6_b : (v4_ == 101) = false := by simpa using h6_
        have h6_n : (v4_ != 101) = true := by simpa using h6_
        by_cases h7_ : v4_ = 108
        · have h7_b : (v4_ == 108) = true := by simpa using h7_
          have h7_n : (v4_ != 108) = false := by simpa using h7_
          have h7_le : v4_ ≤ 108 := by omega
          have h7_ge : 108 ≤ v4_ := by omega
          have Hh7_ := Lib.hid h7_
          clear h7_
          by_cases h8_ : v5_ = 114
          · have h8_b : (v5_ == 114) = true := by simpa using h8_
            have h8_n : (v5_ != 114) = false := by simpa using h8_
            have h8_le : v5_ ≤ 114 := by omega
            have h8_ge : 114 ≤ v5_ := by omega
            have Hh8_ := Lib.hid h8_
            clear h8_
            have hx9_l : (k1 : Int) ≤ (n.length : Int) := by omega
            have hx9_g : (0 : Int) ≤ (k1 : Int) := by omega
            have hx9_ := S_front (l := n) (m := k1)
            have hx10_l : (k2 : Int) ≤ (n.length : Int) := by omega
            have hx10_g : (0 : Int) ≤ (k2 : Int) := by omega
            have hx10_ : (S n).extract k2 n.length = S (n.drop k2) := S_back rfl
            have hx11_ : Op.stringOp .add (S (n.take k1)) (S (n.drop k2)) = pure (.string (S ((n.take k1) ++ (n.drop k2)))) := S_add (by simp; omega)
            have hw12_ : IntKind.i64.wrap (k1 : Int) = (k1 : Int) := IntWalk.i64_in _ (by omega)
            have hw13_ : IntKind.i64.wrap (k2 : Int) = (k2 : Int) := IntWalk.i64_in _ (by omega)
            go_wp2
            go_quiet (fail)
            obtain ⟨w14, hw14⟩ : ∃ x, x = w1.drewN nq := ⟨_, rfl⟩
            have hb15_ : Below w1.heap.size w1 w14 := by rw [hw14]; exact below_drewN (Below.refl _ _) _
            rw [← hw14]
            clear hw14
            clear hw12_ hw13_
            have z17_ := hb15_.size
            have B18_ := k2_.trans (hb15_.mono (by first | omega | (simp; omega) | simp))
            clear hb15_
            have h19_ : ¬ (((n.take k1) ++ (n.drop k2)) = n) := fun e => by have q := congrArg List.length e; rw [cut_len] at q; omega
            have h19_b : ((S ((n.take k1) ++ (n.drop k2))).toList == (S n).toList) = false := by rw [S_eq]; exact decide_eq_false h19_
            go_wp2
            go_roundw
            case rel => exact ⟨((n.take k1) ++ (n.drop k2)), 0, by rfl, by go_num, by (have e := (keeps_turn (k := k) hn (by omega)).1; rw [show turnAt n k = ((n.take k1) ++ (n.drop k2)) from by (have q1 := HK1.out; have q2 := HK2.out; subst q1; subst q2; rw [turn_is (v := v4_) (u := v5_) Gv4_.out Gv5_.out]; (repeat (first | rw [if_pos (by omega)] | rw [if_neg (by omega)])); (try rfl))] at e; exact e), by (rw [cut_len]; omega), by omega, simp_step (by omega) HSF.out (by have q1 := HK1.out; have q2 := HK2.out; subst q1; subst q2; rw [turn_is (v := v4_) (u := v5_) Gv4_.out Gv5_.out]; (repeat (first | rw [if_pos (by omega)] | rw [if_neg (by omega)])); (try rfl)) (by (rw [cut_len]; omega)), B18_, (by first | omega | (simp; omega) | simp)⟩
            case measure => simp [intOf, lenV_S] <;> omega
          · have h8_b : (v5_ == 114) = false := by simpa using h8_
            have h8_n : (v5_ != 114) = true := by simpa using h8_
            have h9_ : ¬ (v4_ = 104) := by omega
            have h9_b : (v4_ == 104) = false := by simpa using h9_
            have h9_n : (v4_ != 104) = true := by simpa using h9_
            have h10_ : ¬ (v4_ = 97) := by omega
            have h10_b : (v4_ == 97) = false := by simpa using h10_
            have h10_n : (v4_ != 97) = true := by simpa using h10_
            have h11_ : ¬ (v4_ = 101) := by omega
            have h11_b : (v4_ == 101) = false := by simpa using h11_
            have h11_n : (v4_ != 101) = true := by simpa using h11_
            have h12_ : v4_ = 108 := by omega
            have h12_b : (v4_ == 108) = true := by simpa using h12_
            have h12_n : (v4_ != 108) = false := by simpa using h12_
            have h12_le : v4_ ≤ 108 := by omega
            have h12_ge : 108 ≤ v4_ := by omega
            have Hh12_ := Lib.hid h12_
            clear h12_
            by_cases h13_ : v5_ = 100
            · have h13_b : (v5_ == 100) = true := by simpa using h13_
              have h13_n : (v5_ != 100) = false := by simpa using h13_
              have h13_le : v5_ ≤ 100 := by omega
              have h13_ge : 100 ≤ v5_ := by omega
              have Hh13_ := Lib.hid h13_
              clear h13_
              have hx14_l : (k2 : Int) ≤ (n.length : Int) := by omega
              have hx14_g : (0 : Int) ≤ (k2 : Int) := by omega
              have hx14_ : (S n).extract k2 n.length = S (n.drop k2) := S_back rfl
              have hx15_ : Op.stringOp .add (S ([101] : List UInt8)) (S (n.drop k2)) = pure (.string (S (101 :: (n.drop k2)))) := S_add (by simp; omega)
              have h16_ : ¬ ((101 :: (n.drop k2)) = n) := fun e => by have q := congrArg List.length e; rw [cons_len] at q; omega
              have h16_b : ((S (101 :: (n.drop k2))).toList == (S n).toList) = false := by rw [S_eq]; exact decide_eq_false h16_
              go_wp2
              go_roundw
              case rel => exact ⟨(101 :: (n.drop k2)), 0, by rfl, by go_num, by (have e := (keeps_turn (k := k) hn (by omega)).1; rw [show turnAt n k = (101 :: (n.drop k2)) from by (have q1 := HK1.out; have q2 := HK2.out; subst q1; subst q2; rw [turn_is (v := v4_) (u := v5_) Gv4_.out Gv5_.out]; (repeat (first | rw [if_pos (by omega)] | rw [if_neg (by omega)])); (try rfl))] at e; exact e), by (rw [cons_len]; omega), by omega, simp_step (by omega) HSF.out (by have q1 := HK1.out; have q2 := HK2.out; subst q1; subst q2; rw [turn_is (v := v4_) (u := v5_) Gv4_.out Gv5_.out]; (repeat (first | rw [if_pos (by omega)] | rw [if_neg (by omega)])); (try rfl)) (by (rw [cons_len]; omega)), k2_, (by first | omega | (simp; omega) | simp)⟩
              case measure => simp [intOf, lenV_S] <;> omega
            · have h13_b : (v5_ == 100) = false := by simpa using h13_
              have h13_n : (v5_ != 100) = true := by simpa using h13_
              have h14_ : ¬ (v4_ = 100) := by omega
              have h14_b : (v4_ == 100) = false := by simpa using h14_
              have h14_n : (v4_ != 100) = true := by simpa using h14_
              by_cases h15_ : v4_ = v5_
              · have h15_b : (v4_ == v5_) = true := by simpa using h15_
                have h15_n : (v4_ != v5_) = false := by simpa using h15_
                have h15_le : v4_ ≤ v5_ := by omega
                have h15_ge : v5_ ≤ v4_ := by omega
                have Hh15_ := Lib.hid h15_
                clear h15_
                have hx16_l : (k1 : Int) ≤ (n.length : Int) := by omega
                have hx16_g : (0 : Int) ≤ (k1 : Int) := by omega
                have hx16_ := S_front (l := n) (m := k1)
                have hx17_l : (k2 : Int) ≤ (n.length : Int) := by omega
                have hx17_g : (0 : Int) ≤ (k2 : Int) := by omega
                have hx17_ : (S n).extract k2 n.length = S (n.drop k2) := S_back rfl
                have hx18_ : Op.stringOp .add (S (n.take k1)) (S (n.drop k2)) = pure (.string (S ((n.take k1) ++ (n.drop k2)))) := S_add (by simp; omega)
                have hw19_ : IntKind.i64.wrap (k1 : Int) = (k1 : Int) := IntWalk.i64_in _ (by omega)
                have hw20_ : IntKind.i64.wrap (k2 : Int) = (k2 : Int) := IntWalk.i64_in _ (by omega)
                go_wp2
                go_quiet (fail)
                obtain ⟨w21, hw21⟩ : ∃ x, x = w1.drewN nq := ⟨_, rfl⟩
                have hb22_ : Below w1.heap.size w1 w21 := by rw [hw21]; exact below_drewN (Below.refl _ _) _
                rw [← hw21]
                clear hw21
                clear hw19_ hw20_
                have z24_ := hb22_.size
                have B25_ := k2_.trans (hb22_.mono (by first | omega | (simp; omega) | simp))
                clear hb22_
                have h26_ : ¬ (((n.take k1) ++ (n.drop k2)) = n) := fun e => by have q := congrArg List.length e; rw [cut_len] at q; omega
                have h26_b : ((S ((n.take k1) ++ (n.drop k2))).toList == (S n).toList) = false := by rw [S_eq]; exact decide_eq_false h26_
                go_wp2
                go_roundw
                case rel => exact ⟨((n.take k1) ++ (n.drop k2)), 0, by rfl, by go_num, by (have e := (keeps_turn (k := k) hn (by omega)).1; rw [show turnAt n k = ((n.take k1) ++ (n.drop k2)) from by (have q1 := HK1.out; have q2 := HK2.out; subst q1; subst q2; rw [turn_is (v := v4_) (u := v5_) Gv4_.out Gv5_.out]; (repeat (first | rw [if_pos (by omega)] | rw [if_neg (by omega)])); (try rfl))] at e; exact e), by (rw [cut_len]; omega), by omega, simp_step (by omega) HSF.out (by have q1 := HK1.out; have q2 := HK2.out; subst q1; subst q2; rw [turn_is (v := v4_) (u := v5_) Gv4_.out Gv5_.out]; (repeat (first | rw [if_pos (by omega)] | rw [if_neg (by omega)])); (try rfl)) (by (rw [cut_len]; omega)), B25_, (by first | omega | (simp; omega) | simp)⟩
                case measure => simp [intOf, lenV_S] <;> omega
              · have h15_b : (v4_ == v5_) = false := by simpa using h15_
                have h15_n : (v4_ != v5_) = true := by simpa using h15_
                go_wp2
                go_roundw
                case rel => exact ⟨n, k1, rfl, by go_num, hn, hn8, by omega, by rw [HK1.out]; exact simp_next (by omega) HSF.out (by have q1 := HK1.out; have q2 := HK2.out; subst q1; subst q2; rw [turn_is (v := v4_) (u := v5_) Gv4_.out Gv5_.out]; (repeat (first | rw [if_pos (by omega)] | rw [if_neg (by omega)])); (try rfl)), k2_, (by first | omega | (simp; omega) | simp)⟩
                case measure => simp [intOf, lenV_S] <;> omega
        · have h7_b : (v4_ == 108) = false := by simpa using h7_
          have h7_n : (v4_ != 108) = true := by simpa using h7_
          by_cases h8_ : v4_ = 104
          · have h8_b : (v4_ == 104) = true := by simpa using h8_
            have h8_n : (v4_ != 104) = false := by simpa using h8_
            have h8_le : v4_ ≤ 104 := by omega
            have h8_ge : 104 ≤ v4_ := by omega
            have Hh8_ := Lib.hid h8_
            clear h8_
            have hx9_l : (k1 : Int) ≤ (n.length : Int) := by omega
            have hx9_g : (0 : Int) ≤ (k1 : Int) := by omega
            have hx9_ := S_front (l := n) (m := k1)
            have hx10_l : (k2 : Int) ≤ (n.length : Int) := by omega
            have hx10_g : (0 : Int) ≤ (k2 : Int) := by omega
            have hx10_ : (S n).extract k2 n.length = S (n.drop k2) := S_back rfl
            have hx11_ : Op.stringOp .add (S (n.take k1)) (S (n.drop k2)) = pure (.string (S ((n.take k1) ++ (n.drop k2)))) := S_add (by simp; omega)
            have hw12_ : IntKind.i64.wrap (k1 : Int) = (k1 : Int) := IntWalk.i64_in _ (by omega)
            have hw13_ : IntKind.i64.wrap (k2 : Int) = (k2 : Int) := IntWalk.i64_in _ (by omega)
            go_wp2
            go_quiet (fail)
            obtain ⟨w14, hw14⟩ : ∃ x, x = w1.drewN nq := ⟨_, rfl⟩
            have hb15_ : Below w1.heap.size w1 w14 := by rw [hw14]; exact below_drewN (Below.refl _ _) _
            rw [← hw14]
            clear hw14
            clear hw12_ hw13_
            have z17_ := hb15_.size
            have B18_ := k2_.trans (hb15_.mono (by first | omega | (simp; omega) | simp))
            clear hb15_
            have h19_ : ¬ (((n.take k1) ++ (n.drop k2)) = n) := fun e => by have q := congrArg List.length e; rw [cut_len] at q; omega
            have h19_b : ((S ((n.take k1) ++ (n.drop k2))).toList == (S n).toList) = false := by rw [S_eq]; exact decide_eq_false h19_
            go_wp2
            go_roundw
            case rel => exact ⟨((n.take k1) ++ (n.drop k2)), 0, by rfl, by go_num, by (have e := (keeps_turn (k := k) hn (by omega)).1; rw [show turnAt n k = ((n.take k1) ++ (n.drop k2)) from by (have q1 := HK1.out; have q2 := HK2.out; subst q1; subst q2; rw [turn_is (v := v4_) (u := v5_) Gv4_.out Gv5_.out]; (repeat (first | rw [if_pos (by omega)] | rw [if_neg (by omega)])); (try rfl))] at e; exact e), by (rw [cut_len]; omega), by omega, simp_step (by omega) HSF.out (by have q1 := HK1.out; have q2 := HK2.out; subst q1; subst q2; rw [turn_is (v := v4_) (u := v5_) Gv4_.out Gv5_.out]; (repeat (first | rw [if_pos (by omega)] | rw [if_neg (by omega)])); (try rfl)) (by (rw [cut_len]; omega)), B18_, (by first | omega | (simp; omega) | simp)⟩
            case measure => simp [intOf, lenV_S] <;> omega
          · have h8_b : (v4_ == 104) = false := by simpa using h8_
            have h8_n : (v4_ != 104) = true := by simpa using h8_
            by_cases h9_ : v4_ = 97
            · have h9_b : (v4_ == 97) = true := by simpa using h9_
              have h9_n : (v4_ != 97) = false := by simpa using h9_
              have h9_le : v4_ ≤ 97 := by omega
              have h9_ge : 97 ≤ v4_ := by omega
              have Hh9_ := Lib.hid h9_
              clear h9_
              have hx10_l : (k1 : Int) ≤ (n.length : Int) := by omega
              have hx10_g : (0 : Int) ≤ (k1 : Int) := by omega
              have hx10_ := S_front (l := n) (m := k1)
              have hx11_l : (k2 : Int) ≤ (n.length : Int) := by omega
              have hx11_g : (0 : Int) ≤ (k2 : Int) := by omega
              have hx11_ : (S n).extract k2 n.length = S (n.drop k2) := S_back rfl
              have hx12_ : Op.stringOp .add (S (n.take k1)) (S (n.drop k2)) = pure (.string (S ((n.take k1) ++ (n.drop k2)))) := S_add (by simp; omega)
              have hw13_ : IntKind.i64.wrap (k1 : Int) = (k1 : Int) := IntWalk.i64_in _ (by omega)
              have hw14_ : IntKind.i64.wrap (k2 : Int) = (k2 : Int) := IntWalk.i64_in _ (by omega)
              go_wp2
              go_quiet (fail)
              obtain ⟨w15, hw15⟩ : ∃ x, x = w1.drewN nq := ⟨_, rfl⟩
              have hb16_ : Below w1.heap.size w1 w15 := by rw [hw15]; exact below_drewN (Below.refl _ _) _
              rw [← hw15]
              clear hw15
              clear hw13_ hw14_
              have z18_ := hb16_.size
              have B19_ := k2_.trans (hb16_.mono (by first | omega | (simp; omega) | simp))
              clear hb16_
              have h20_ : ¬ (((n.take k1) ++ (n.drop k2)) = n) := fun e => by have q := congrArg List.length e; rw [cut_len] at q; omega
              have h20_b : ((S ((n.take k1) ++ (n.drop k2))).toList == (S n).toList) = false := by rw [S_eq]; exact decide_eq_false h20_
              go_wp2
              go_roundw
              case rel => exact ⟨((n.take k1) ++ (n.drop k2)), 0, by rfl, by go_num, by (have e := (keeps_turn (k := k) hn (by omega)).1; rw [show turnAt n k = ((n.take k1) ++ (n.drop k2)) from by (have q1 := HK1.out; have q2 := HK2.out; subst q1; subst q2; rw [turn_is (v := v4_) (u := v5_) Gv4_.out Gv5_.out]; (repeat (first | rw [if_pos (by omega)] | rw [if_neg (by omega)])); (try rfl))] at e; exact e), by (rw [cut_len]; omega), by omega, simp_step (by omega) HSF.out (by have q1 := HK1.out; have q2 := HK2.out; subst q1; subst q2; rw [turn_is (v := v4_) (u := v5_) Gv4_.out Gv5_.out]; (repeat (first | rw [if_pos (by omega)] | rw [if_neg (by omega)])); (try rfl)) (by (rw [cut_len]; omega)), B19_, (by first | omega | (simp; omega) | simp)⟩
              case measure => simp [intOf, lenV_S] <;> omega
            · have h9_b : (v4_ == 97) = false := by simpa using h9_
              have h9_n : (v4_ != 97) = true := by simpa using h9_
              have h10_ : ¬ (v4_ = 101) := by omega
              have h10_b : (v4_ == 101) = false := by simpa using h10_
              have h10_n : (v4_ != 101) = true := by simpa using h10_
              have h11_ : ¬ (v4_ = 108) := by omega
              have h11_b : (v4_ == 108) = false := by simpa using h11_
              have h11_n : (v4_ != 108) = true := by simpa using h11_
              by_cases h12_ : v4_ = 100
              · have h12_b : (v4_ == 100) = true := by simpa using h12_
                have h12_n : (v4_ != 100) = false := by simpa using h12_
                have h12_le : v4_ ≤ 100 := by omega
                have h12_ge : 100 ≤ v4_ := by omega
                have Hh12_ := Lib.hid h12_
                clear h12_
                by_cases h13_ : v5_ = 100
                · have h13_b : (v5_ == 100) = true := by simpa using h13_
                  have h13_n : (v5_ != 100) = false := by simpa using h13_
                  have h13_le : v5_ ≤ 100 := by omega
                  have h13_ge : 100 ≤ v5_ := by omega
                  have Hh13_ := Lib.hid h13_
                  clear h13_
                  have hx14_l : (k : Int) ≤ (n.length : Int) := by omega
                  have hx14_g : (0 : Int) ≤ (k : Int) := by omega
                  have hx14_ := S_front (l := n) (m := k)
                  have hx15_l : (k2 : Int) ≤ (n.length : Int) := by omega
                  have hx15_g : (0 : Int) ≤ (k2 : Int) := by omega
                  have hx15_ : (S n).extract k2 n.length = S (n.drop k2) := S_back rfl
                  have hx16_ : Op.stringOp .add (S (n.take k)) (S (n.drop k2)) = pure (.string (S ((n.take k) ++ (n.drop k2)))) := S_add (by simp; omega)
                  have hw17_ : IntKind.i64.wrap (k2 : Int) = (k2 : Int) := IntWalk.i64_in _ (by omega)
                  go_wp2
                  go_quiet (fail)
                  obtain ⟨w18, hw18⟩ : ∃ x, x = w1.drewN nq := ⟨_, rfl⟩
                  have hb19_ : Below w1.heap.size w1 w18 := by rw [hw18]; exact below_drewN (Below.refl _ _) _
                  rw [← hw18]
                  clear hw18
                  clear hw17_
                  have z21_ := hb19_.size
                  have B22_ := k2_.trans (hb19_.mono (by first | omega | (simp; omega) | simp))
                  clear hb19_
                  have h23_ : ¬ (((n.take k) ++ (n.drop k2)) = n) := fun e => by have q := congrArg List.length e; rw [cut_len] at q; omega
                  have h23_b : ((S ((n.take k) ++ (n.drop k2))).toList == (S n).toList) = false := by rw [S_eq]; exact decide_eq_false h23_
                  go_wp2
                  go_roundw
                  case rel => exact ⟨((n.take k) ++ (n.drop k2)), 0, by rfl, by go_num, by (have e := (keeps_turn (k := k) hn (by omega)).1; rw [show turnAt n k = ((n.take k) ++ (n.drop k2)) from by (have q1 := HK1.out; have q2 := HK2.out; subst q1; subst q2; rw [turn_is (v := v4_) (u := v5_) Gv4_.out Gv5_.out]; (repeat (first | rw [if_pos (by omega)] | rw [if_neg (by omega)])); (try rfl))] at e; exact e), by (rw [cut_len]; omega), by omega, simp_step (by omega) HSF.out (by have q1 := HK1.out; have q2 := HK2.out; subst q1; subst q2; rw [turn_is (v := v4_) (u := v5_) Gv4_.out Gv5_.out]; (repeat (first | rw [if_pos (by omega)] | rw [if_neg (by omega)])); (try rfl)) (by (rw [cut_len]; omega)), B22_, (by first | omega | (simp; omega) | simp)⟩
                  case measure => simp [intOf, lenV_S] <;> omega
                · have h13_b : (v5_ == 100) = false := by simpa using h13_
                  have h13_n : (v5_ != 100) = true := by simpa using h13_
                  by_cases h14_ : v4_ = v5_
                  · have h14_b : (v4_ == v5_) = true := by simpa using h14_
                    have h14_n : (v4_ != v5_) = false := by simpa using h14_
                    have h14_le : v4_ ≤ v5_ := by omega
                    have h14_ge : v5_ ≤ v4_ := by omega
                    have Hh14_ := Lib.hid h14_
                    clear h14_
                    have hx15_l : (k1 : Int) ≤ (n.length : Int) := by omega
                    have hx15_g : (0 : Int) ≤ (k1 : Int) := by omega
                    have hx15_ := S_front (l := n) (m := k1)
                    have hx16_l : (k2 : Int) ≤ (n.length : Int) := by omega
                    have hx16_g : (0 : Int) ≤ (k2 : Int) := by omega
                    have hx16_ : (S n).extract k2 n.length = S (n.drop k2) := S_back rfl
                    have hx17_ : Op.stringOp .add (S (n.take k1)) (S (n.drop k2)) = pure (.string (S ((n.take k1) ++ (n.drop k2)))) := S_add (by simp; omega)
                    have hw18_ : IntKind.i64.wrap (k1 : Int) = (k1 : Int) := IntWalk.i64_in _ (by omega)
                    have hw19_ : IntKind.i64.wrap (k2 : Int) = (k2 : Int) := IntWalk.i64_in _ (by omega)
                    go_wp2
                    go_quiet (fail)
                    obtain ⟨w20, hw20⟩ : ∃ x, x = w1.drewN nq := ⟨_, rfl⟩
                    have hb21_ : Below w1.heap.size w1 w20 := by rw [hw20]; exact below_drewN (Below.refl _ _) _
                    rw [← hw20]
                    clear hw20
                    clear hw18_ hw19_
                    have z23_ := hb21_.size
                    have B24_ := k2_.trans (hb21_.mono (by first | omega | (simp; omega) | simp))
                    clear hb21_
                    have h25_ : ¬ (((n.take k1) ++ (n.drop k2)) = n) := fun e => by have q := congrArg List.length e; rw [cut_len] at q; omega
                    have h25_b : ((S ((n.take k1) ++ (n.drop k2))).toList == (S n).toList) = false := by rw [S_eq]; exact decide_eq_false h25_
                    go_wp2
                    go_roundw
                    case rel => exact ⟨((n.take k1) ++ (n.drop k2)), 0, by rfl, by go_num, by (have e := (keeps_turn (k := k) hn (by omega)).1; rw [show turnAt n k = ((n.take k1) ++ (n.drop k2)) from by (have q1 := HK1.out; have q2 := HK2.out; subst q1; subst q2; rw [turn_is (v := v4_) (u := v5_) Gv4_.out Gv5_.out]; (repeat (first | rw [if_pos (by omega)] | rw [if_neg (by omega)])); (try rfl))] at e; exact e), by (rw [cut_len]; omega), by omega, simp_step (by omega) HSF.out (by have q1 := HK1.out; have q2 := HK2.out; subst q1; subst q2; rw [turn_is (v := v4_) (u := v5_) Gv4_.out Gv5_.out]; (repeat (first | rw [if_pos (by omega)] | rw [if_neg (by omega)])); (try rfl)) (by (rw [cut_len]; omega)), B24_, (by first | omega | (simp; omega) | simp)⟩
                    case measure => simp [intOf, lenV_S] <;> omega
                  · have h14_b : (v4_ == v5_) = false := by simpa using h14_
                    have h14_n : (v4_ != v5_) = true := by simpa using h14_
                    go_wp2
                    go_roundw
                    case rel => exact ⟨n, k1, rfl, by go_num, hn, hn8, by omega, by rw [HK1.out]; exact simp_next (by omega) HSF.out (by have q1 := HK1.out; have q2 := HK2.out; subst q1; subst q2; rw [turn_is (v := v4_) (u := v5_) Gv4_.out Gv5_.out]; (repeat (first | rw [if_pos (by omega)] | rw [if_neg (by omega)])); (try rfl)), k2_, (by first | omega | (simp; omega) | simp)⟩
                    case measure => simp [intOf, lenV_S] <;> omega
              · have h12_b : (v4_ == 100) = false := by simpa using h12_
                have h12_n : (v4_ != 100) = true := by simpa using h12_
                by_cases h13_ : v4_ = v5_
                · have h13_b : (v4_ == v5_) = true := by simpa using h13_
                  have h13_n : (v4_ != v5_) = false := by simpa using h13_
                  have h13_le : v4_ ≤ v5_ := by omega
                  have h13_ge : v5_ ≤ v4_ := by omega
                  have Hh13_ := Lib.hid h13_
                  clear h13_
                  have hx14_l : (k1 : Int) ≤ (n.length : Int) := by omega
                  have hx14_g : (0 : Int) ≤ (k1 : Int) := by omega
                  have hx14_ := S_front (l := n) (m := k1)
                  have hx15_l : (k2 : Int) ≤ (n.length : Int) := by omega
                  have hx15_g : (0 : Int) ≤ (k2 : Int) := by omega
                  have hx15_ : (S n).extract k2 n.length = S (n.drop k2) := S_back rfl
                  have hx16_ : Op.stringOp .add (S (n.take k1)) (S (n.drop k2)) = pure (.string (S ((n.take k1) ++ (n.drop k2)))) := S_add (by simp; omega)
                  have hw17_ : IntKind.i64.wrap (k1 : Int) = (k1 : Int) := IntWalk.i64_in _ (by omega)
                  have hw18_ : IntKind.i64.wrap (k2 : Int) = (k2 : Int) := IntWalk.i64_in _ (by omega)
                  go_wp2
                  go_quiet (fail)
                  obtain ⟨w19, hw19⟩ : ∃ x, x = w1.drewN nq := ⟨_, rfl⟩
                  have hb20_ : Below w1.heap.size w1 w19 := by rw [hw19]; exact below_drewN (Below.refl _ _) _
                  rw [← hw19]
                  clear hw19
                  clear hw17_ hw18_
                  have z22_ := hb20_.size
                  have B23_ := k2_.trans (hb20_.mono (by first | omega | (simp; omega) | simp))
                  clear hb20_
                  have h24_ : ¬ (((n.take k1) ++ (n.drop k2)) = n) := fun e => by have q := congrArg List.length e; rw [cut_len] at q; omega
                  have h24_b : ((S ((n.take k1) ++ (n.drop k2))).toList == (S n).toList) = false := by rw [S_eq]; exact decide_eq_false h24_
                  go_wp2
                  go_roundw
                  case rel => exact ⟨((n.take k1) ++ (n.drop k2)), 0, by rfl, by go_num, by (have e := (keeps_turn (k := k) hn (by omega)).1; rw [show turnAt n k = ((n.take k1) ++ (n.drop k2)) from by (have q1 := HK1.out; have q2 := HK2.out; subst q1; subst q2; rw [turn_is (v := v4_) (u := v5_) Gv4_.out Gv5_.out]; (repeat (first | rw [if_pos (by omega)] | rw [if_neg (by omega)])); (try rfl))] at e; exact e), by (rw [cut_len]; omega), by omega, simp_step (by omega) HSF.out (by have q1 := HK1.out; have q2 := HK2.out; subst q1; subst q2; rw [turn_is (v := v4_) (u := v5_) Gv4_.out Gv5_.out]; (repeat (first | rw [if_pos (by omega)] | rw [if_neg (by omega)])); (try rfl)) (by (rw [cut_len]; omega)), B23_, (by first | omega | (simp; omega) | simp)⟩
                  case measure => simp [intOf, lenV_S] <;> omega
                · have h13_b : (v4_ == v5_) = false := by simpa using h13_
                  have h13_n : (v4_ != v5_) = true := by simpa using h13_
                  go_wp2
                  go_roundw
                  case rel => exact ⟨n, k1, rfl, by go_num, hn, hn8, by omega, by rw [HK1.out]; exact simp_next (by omega) HSF.out (by have q1 := HK1.out; have q2 := HK2.out; subst q1; subst q2; rw [turn_is (v := v4_) (u := v5_) Gv4_.out Gv5_.out]; (repeat (first | rw [if_pos (by omega)] | rw [if_neg (by omega)])); (try rfl)), k2_, (by first | omega | (simp; omega) | simp)⟩
                  case measure => simp [intOf, lenV_S] <;> omega
    · have hfin := HSF.out
      rw [simp_done (by omega)] at hfin
      have HFIN := Lib.hid hfin
      clear hfin
      go_wp2
      go_ret
      exact ⟨ret_str HFIN.out, k2_⟩

set_option maxRecDepth 10000 in
set_option maxHeartbeats 2000000 in
theorem specSimplerRule_no (l : List UInt8) (w : World) (hl : l.length ≤ 1152921504606846976) (hrb : ruleB l = false) :
    Calls Try.prog 21 #[.string (S l)] w fun e w' => e = .returned (.string (S (simpL l))) ∧ Below w.heap.size w w' := by
  have hS1 := S_size
  have hS2 : ∀ (l : List UInt8) (k : Nat) (h : k < (S l).size), (S l)[k]'h = l[k]'(by rw [S_size] at h; exact h) := fun _ _ h => S_at2 h
  have hK0 : ({ data := #[] } : ByteArray) = S [] := rfl
  have hK1 : ({ data := #[101] } : ByteArray) = S [101] := rfl
  have hK2 : ({ data := #[108] } : ByteArray) = S [108] := rfl
  have HRB := Lib.hid hrb
  clear hrb
  go_enter Try.func21, Try.ntmps21
  go_wp2_with fail
  refine (specRuleOk_any l _ (by omega)).mono ?_
  rintro e w' ⟨he, rfl⟩
  rw [HRB.out] at he
  subst he
  go_wp2
  go_ret
  exact ⟨ret_str (simpL_no HRB.out).symm, Below.refl _ _⟩

theorem specSimplerRule_any (l : List UInt8) (w : World) (hl : l.length ≤ 1152921504606846976) : Calls Try.prog 21 #[.string (S l)] w fun e w' => e = .returned (.string (S (simpL l))) ∧ Below w.heap.size w w' := by
  by_cases h : ruleB l = true
  · exact specSimplerRule_yes l w hl h
  · exact specSimplerRule_no l w hl (by simpa using h)


end Go.Proofs.Ytkkdolbbioeknaa
