/-
  Chapter 8 of the program: RuleOk, SimplerRule, RuleAwards. No condition but lengths that fit.
-/
import Derived.Test.YtkkdolbbioeknaaLibStr
import Derived.Test.YtkkdolbbioeknaaSpec8B
import Derived.BigQuiet
import Derived.Deep.Cut
namespace Go.Proofs.Ytkkdolbbioeknaa
open Go.RowKit

/-! Letters. -/
theorem idx_neg (l : List UInt8) (c : UInt8) : Lib.indexByte l c < 0 ↔ ¬ c ∈ l := by
  induction l with
  | nil => simp [Lib.indexByte]
  | cons b l ih =>
    have hg := Lib.indexByte_ge l c
    unfold Lib.indexByte
    by_cases hb : b = c
    · subst hb; simp
    · have e : (b == c) = false := by simpa using hb
      have hb' : ¬ c = b := fun q => hb q.symm
      rw [e, List.mem_cons, if_neg (by simp)]
      by_cases hm : Lib.indexByte l c = -1
      · have := ih.1 (by omega)
        simp [hm, hb', this]
      · have e2 : (Lib.indexByte l c == -1) = false := by simpa using hm
        rw [e2, if_neg (by simp)]
        have h0 : ¬ Lib.indexByte l c < 0 := by omega
        have hc : c ∈ l := Classical.byContradiction fun q => h0 (ih.2 q)
        constructor
        · intro q; exact absurd q (by omega)
        · intro q; exact absurd (Or.inr hc) q
theorem byte_back {x : UInt8} {v : Int} (h : ((x.toNat : Nat) : Int) = v) : v.toNat.toUInt8 = x := by
  subst h
  simp
theorem ix_turn {x : UInt8} {v u : Int} (h : ((x.toNat : Nat) : Int) = v) (hu : Lib.indexByte ([100, 99, 114] : List UInt8) v.toNat.toUInt8 = u) : u < 0 ↔ turnL x = false := by
  rw [← hu, byte_back h, idx_neg, Bool.eq_false_iff, Ne, turnL_iff]
  simp
theorem ix_first {x : UInt8} {v u : Int} (h : ((x.toNat : Nat) : Int) = v) (hu : Lib.indexByte ([101, 108, 104, 97] : List UInt8) v.toNat.toUInt8 = u) : u < 0 ↔ firstL x = false := by
  rw [← hu, byte_back h, idx_neg, Bool.eq_false_iff, Ne, firstL_iff]
  simp
/-- The letters behind the first one, below a place, are as they must be. -/
def TurnsTo (l : List UInt8) (k : Nat) : Prop := ∀ j, 1 ≤ j → j < k → turnL (l.getD j 0) = true
theorem TurnsTo.one (l : List UInt8) : TurnsTo l 1 := fun j h1 h2 => absurd h2 (by omega)
theorem TurnsTo.more {l : List UInt8} {k : Nat} (h : TurnsTo l k) (hk : turnL (l.getD k 0) = true) : TurnsTo l (k + 1) := fun j h1 h2 => by
  rcases Nat.lt_or_ge j k with q | q
  · exact h j h1 q
  · obtain rfl : j = k := by omega
    exact hk
theorem turns_rule {l : List UInt8} (h : TurnsTo l l.length) (h1 : 1 ≤ l.length) (h8 : l.length ≤ 8) (hf : firstL (l.getD 0 0) = true) : ruleB l = true :=
  letters_rule (fun j hj => ⟨fun e => by subst e; exact hf, fun e => h j e hj⟩) h1 h8
theorem no_len {l : List UInt8} (h : ¬ (1 ≤ l.length ∧ l.length ≤ 8)) : ruleB l = false := by
  rw [Bool.eq_false_iff]; intro q; exact h (rule_letters q).2
theorem no_turn {l : List UInt8} {k : Nat} (h1 : 1 ≤ k) (hk : k < l.length) (h : turnL (l.getD k 0) = false) : ruleB l = false := by
  rw [Bool.eq_false_iff]; intro q; rw [((rule_letters q).1 k hk).2 h1] at h; cases h
theorem no_first {l : List UInt8} (hk : 0 < l.length) (h : firstL (l.getD 0 0) = false) : ruleB l = false := by
  rw [Bool.eq_false_iff]; intro q; rw [((rule_letters q).1 0 hk).1 rfl] at h; cases h

set_option maxRecDepth 10000 in
set_option maxHeartbeats 1000000 in
theorem implRuleOk_same (l : List UInt8) (w : World) (hl : l.length ≤ 1152921504606846976) :
    Calls Try.prog 11 #[.string (S l)] w fun e w' => e = .returned (.bool (ruleB l)) ∧ w = w' := by
  have hS1 := S_size
  have hS2 : ∀ (l : List UInt8) (k : Nat) (h : k < (S l).size), (S l)[k]'h = l[k]'(by rw [S_size] at h; exact h) := fun _ _ h => S_at2 h
  have hK0 : ({ data := #[100, 99, 114] } : ByteArray) = S [100, 99, 114] := rfl
  have hK1 : ({ data := #[101, 108, 104, 97] } : ByteArray) = S [101, 108, 104, 97] := rfl
  go_enter Try.func11, Try.ntmps11
  by_cases h1_ : (l.length : Int) < 1
  · have h1_d : decide ((l.length : Int) < 1) = true := decide_eq_true h1_
    go_wp2
    go_ret
    exact ⟨ret_bool (by first | exact ((no_len (by omega)).symm) | exact (decide_eq_true (by omega)).trans ((no_len (by omega)).symm)), rfl⟩
  · have h1_d : decide ((l.length : Int) < 1) = false := decide_eq_false h1_
    by_cases h2_ : (l.length : Int) > 8
    · have h2_d : decide ((l.length : Int) > 8) = true := decide_eq_true h2_
      go_wp2
      go_ret
      exact ⟨ret_bool (by first | exact ((no_len (by omega)).symm) | exact (decide_eq_true (by omega)).trans ((no_len (by omega)).symm)), rfl⟩
    · have h2_d : decide ((l.length : Int) > 8) = false := decide_eq_false h2_
      go_wp2
      go_loop [3] (fun i => ∃ k : Nat, i = .int .i64 k ∧ (1 ≤ k) ∧ (k ≤ l.length) ∧ (TurnsTo l k)) (fun i => l.length - (intOf i).toNat)
      case atStart => exact ⟨1, rfl, Nat.le_refl _, by omega, TurnsTo.one l⟩
      case round =>
        obtain ⟨k, rfl, hk1, hk, htt⟩ := hrel
        have HTT := Lib.hid htt
        clear htt
        by_cases hlt0 : k < l.length
        · have v3_i : (k : Int) < (l.length : Int) := by omega
          have v3_j : (0 : Int) ≤ (k : Int) := by omega
          have v3_k : k < l.length := by omega
          have bv3_ := byte_bd (l[k]'v3_k)
          obtain ⟨v3_, hv3_⟩ : ∃ v : Int, (((l[k]'v3_k).toNat : Nat) : Int) = v := ⟨_, rfl⟩
          rw [hv3_] at bv3_
          obtain ⟨bv3_1, bv3_2⟩ := bv3_
          have Gv3_ : Hid (((l.getD k 0).toNat : Int) = v3_) := by show _ = _; rw [getD_byte l v3_k]; exact hv3_
          go_wp2_with fail
          refine (stringsIndexByte_any ([100, 99, 114] : List UInt8) v3_ _).mono ?_
          rintro e w' ⟨he, rfl⟩
          obtain ⟨v4_, hv4_⟩ : ∃ v, Lib.indexByte ([100, 99, 114] : List UInt8) (v3_).toNat.toUInt8 = v := ⟨_, rfl⟩
          rw [hv4_] at he
          subst he
          have Hv4_ := Lib.hid hv4_
          clear hv4_
          by_cases h5_ : v4_ < 0
          · have h5_d : decide (v4_ < 0) = true := decide_eq_true h5_
            go_wp2
            go_ret
            exact ⟨ret_bool (by first | exact ((no_turn (by omega) (by omega) ((ix_turn Gv3_.out Hv4_.out).1 (by omega))).symm) | exact (decide_eq_true (by omega)).trans ((no_turn (by omega) (by omega) ((ix_turn Gv3_.out Hv4_.out).1 (by omega))).symm)), rfl⟩
          · have h5_d : decide (v4_ < 0) = false := decide_eq_false h5_
            go_wp2
            go_round
            case rel => exact ⟨k + 1, by go_num, by omega, by omega, HTT.out.more (by cases q : turnL (l.getD k 0) with | true => rfl | false => exact absurd ((ix_turn Gv3_.out Hv4_.out).2 q) (by omega))⟩
            case measure => simp [intOf] <;> omega
        · obtain rfl : k = l.length := by omega
          have v3_i : (0 : Int) < (l.length : Int) := by omega
          have v3_j : (0 : Int) ≤ (0 : Int) := by omega
          have v3_k : 0 < l.length := by omega
          have bv3_ := byte_bd (l[0]'v3_k)
          obtain ⟨v3_, hv3_⟩ : ∃ v : Int, (((l[0]'v3_k).toNat : Nat) : Int) = v := ⟨_, rfl⟩
          rw [hv3_] at bv3_
          obtain ⟨bv3_1, bv3_2⟩ := bv3_
          have Gv3_ : Hid (((l.getD 0 0).toNat : Int) = v3_) := by show _ = _; rw [getD_byte l v3_k]; exact hv3_
          go_wp2_with fail
          refine (stringsIndexByte_any ([101, 108, 104, 97] : List UInt8) v3_ _).mono ?_
          rintro e w' ⟨he, rfl⟩
          obtain ⟨v4_, hv4_⟩ : ∃ v, Lib.indexByte ([101, 108, 104, 97] : List UInt8) (v3_).toNat.toUInt8 = v := ⟨_, rfl⟩
          rw [hv4_] at he
          subst he
          have Hv4_ := Lib.hid hv4_
          clear hv4_
          by_cases h5_ : v4_ ≥ 0
          · have h5_d : decide (v4_ ≥ 0) = true := decide_eq_true h5_
            go_wp2
            go_ret
            exact ⟨ret_bool (by first | exact ((turns_rule HTT.out (by omega) (by omega) (by cases q : firstL (l.getD 0 0) with | true => rfl | false => exact absurd ((ix_first Gv3_.out Hv4_.out).2 q) (by omega))).symm) | exact (decide_eq_true (by omega)).trans ((turns_rule HTT.out (by omega) (by omega) (by cases q : firstL (l.getD 0 0) with | true => rfl | false => exact absurd ((ix_first Gv3_.out Hv4_.out).2 q) (by omega))).symm)), rfl⟩
          · have h5_d : decide (v4_ ≥ 0) = false := decide_eq_false h5_
            go_wp2
            go_ret
            exact ⟨ret_bool (by first | exact ((no_first (by omega) ((ix_first Gv3_.out Hv4_.out).1 (by omega))).symm) | exact (decide_eq_false (by omega)).trans ((no_first (by omega) ((ix_first Gv3_.out Hv4_.out).1 (by omega))).symm)), rfl⟩

theorem implRuleOk_any (l : List UInt8) (w : World) (hl : l.length ≤ 1152921504606846976) : Calls Try.prog 11 #[.string (S l)] w fun e w' => e = .returned (.bool (ruleB l)) ∧ Below w.heap.size w w' :=
  (implRuleOk_same l w hl).mono fun _ _ ⟨e1, e2⟩ => ⟨e1, e2 ▸ Below.refl _ _⟩

/-! Two letters behind each other. -/
/-- What stands for two letters that are made simpler. -/
def pairTo (p : List UInt8) : Option (List UInt8) :=
  if p = [101, 99] then some [101] else if p = [108, 100] then some [101]
  else if p = [108, 114] then some [108] else if p = [101, 100] then some [108]
  else if p = [104, 100] then some [104] else if p = [104, 99] then some [104] else if p = [104, 114] then some [104]
  else if p = [97, 100] then some [97] else if p = [97, 99] then some [97] else if p = [97, 114] then some [97]
  else if p = [100, 100] then some [] else if p = [99, 99] then some [99] else if p = [114, 114] then some [114]
  else none
/-- What simplerPair returns. -/
def pairV (p : List UInt8) : Value := .tuple #[.string (S ((pairTo p).getD [])), .bool (pairTo p).isSome]
theorem pair_two {n : List UInt8} {k : Nat} (hk : k + 1 < n.length) : (n.drop k).take 2 = [n.getD k 0, n.getD (k + 1) 0] := by
  rw [List.drop_eq_getElem_cons (by omega), List.drop_eq_getElem_cons (by omega), getD_byte n (by omega), getD_byte n hk]
  rfl
theorem at_zero {n : List UInt8} {k : Nat} (h : ruleB n = true) (hk : k < n.length) (hf : firstL (n.getD k 0) = true) : k = 0 := by
  cases k with
  | zero => rfl
  | succ j =>
    have e := ((rule_letters h).1 (j + 1) hk).2 (by omega)
    rw [turn_no_first e] at hf; cases hf
theorem cut_one {n : List UInt8} {k : Nat} (hk : k < n.length) : n.take (k + 1) = n.take k ++ [n.getD k 0] := by
  rw [List.take_succ_eq_append_getElem hk, getD_byte n hk]
theorem pair_turn {n : List UInt8} {k : Nat} (h : ruleB n = true) (hk : k + 1 < n.length) :
    (∀ q, pairTo ((n.drop k).take 2) = some q → turnAt n k = n.take k ++ (q ++ n.drop (k + 2))) ∧ (pairTo ((n.drop k).take 2) = none → turnAt n k = n) := by
  have hz := at_zero h (k := k) (by omega)
  have ht := ((rule_letters h).1 (k + 1) hk).2 (by omega)
  have hx : firstL (n.getD k 0) = true ∨ turnL (n.getD k 0) = true := by
    rcases Nat.eq_zero_or_pos k with q | q
    · exact Or.inl (((rule_letters h).1 k (by omega)).1 q)
    · exact Or.inr (((rule_letters h).1 k (by omega)).2 q)
  rw [pair_two hk]
  unfold turnAt
  rw [cut_one (n := n) (k := k) (by omega), List.append_assoc]
  obtain ⟨x, hX⟩ : ∃ x, n.getD k 0 = x := ⟨_, rfl⟩
  obtain ⟨y, hY⟩ : ∃ y, n.getD (k + 1) 0 = y := ⟨_, rfl⟩
  obtain ⟨T, hT⟩ : ∃ T, n.drop (k + 2) = T := ⟨_, rfl⟩
  rw [hX] at hz hx
  rw [hY] at ht
  rw [hX, hY, hT]
  have h0 : firstL x = true → n.take k = [] := fun q => by rw [hz q]; rfl
  obtain ⟨Z, hZ⟩ : ∃ Z, n.take k = Z := ⟨_, rfl⟩
  rw [hZ] at h0 ⊢
  clear hX hY hT hZ hz
  rcases hx with hx | hx
  · have hz := h0 hx
    subst hz
    rcases firstL_iff.1 hx with rfl | rfl | rfl | rfl <;> rcases turnL_iff.1 ht with rfl | rfl | rfl <;> refine ⟨fun q hq => ?_, fun hq => ?_⟩ <;> first | (cases hq <;> rfl) | rfl
  · rcases turnL_iff.1 hx with rfl | rfl | rfl <;> rcases turnL_iff.1 ht with rfl | rfl | rfl <;> refine ⟨fun q hq => ?_, fun hq => ?_⟩ <;> first | (cases hq <;> rfl) | rfl
theorem pair_no {p : List UInt8} (h : pairTo p = none) : pairV p = .tuple #[.string (S []), .bool false] := by rw [pairV, h]; rfl
theorem pair_yes {p q : List UInt8} (h : pairTo p = some q) : pairV p = .tuple #[.string (S q), .bool true] := by rw [pairV, h]; rfl

set_option maxRecDepth 10000 in
set_option maxHeartbeats 2000000 in
theorem simplerPair_any (p : List UInt8) (w : World) :
    Calls Try.prog 74 #[.string (S p)] w fun e w' => e = .returned (pairV p) ∧ w = w' := by
  have hS1 := S_size
  have hS2 : ∀ (l : List UInt8) (k : Nat) (h : k < (S l).size), (S l)[k]'h = l[k]'(by rw [S_size] at h; exact h) := fun _ _ h => S_at2 h
  have hK0 : ({ data := #[] } : ByteArray) = S [] := rfl
  have hK1 : ({ data := #[100, 100] } : ByteArray) = S [100, 100] := rfl
  have hK2 : ({ data := #[101] } : ByteArray) = S [101] := rfl
  have hK3 : ({ data := #[101, 100] } : ByteArray) = S [101, 100] := rfl
  have hK4 : ({ data := #[101, 99] } : ByteArray) = S [101, 99] := rfl
  have hK5 : ({ data := #[104] } : ByteArray) = S [104] := rfl
  have hK6 : ({ data := #[104, 100] } : ByteArray) = S [104, 100] := rfl
  have hK7 : ({ data := #[104, 114] } : ByteArray) = S [104, 114] := rfl
  have hK8 : ({ data := #[104, 99] } : ByteArray) = S [104, 99] := rfl
  have hK9 : ({ data := #[108] } : ByteArray) = S [108] := rfl
  have hK10 : ({ data := #[108, 100] } : ByteArray) = S [108, 100] := rfl
  have hK11 : ({ data := #[108, 114] } : ByteArray) = S [108, 114] := rfl
  have hK12 : ({ data := #[114] } : ByteArray) = S [114] := rfl
  have hK13 : ({ data := #[114, 114] } : ByteArray) = S [114, 114] := rfl
  have hK14 : ({ data := #[97] } : ByteArray) = S [97] := rfl
  have hK15 : ({ data := #[97, 100] } : ByteArray) = S [97, 100] := rfl
  have hK16 : ({ data := #[97, 114] } : ByteArray) = S [97, 114] := rfl
  have hK17 : ({ data := #[97, 99] } : ByteArray) = S [97, 99] := rfl
  have hK18 : ({ data := #[99] } : ByteArray) = S [99] := rfl
  have hK19 : ({ data := #[99, 99] } : ByteArray) = S [99, 99] := rfl
  go_enter Try.func74, Try.ntmps74
  by_cases h1_ : p = ([101, 99] : List UInt8)
  · have h1_b : ((S p).toList == (S ([101, 99] : List UInt8)).toList) = true := by rw [S_eq]; exact decide_eq_true h1_
    have Hh1_ := Lib.hid h1_
    clear h1_
    have hfin : pairV p = .tuple #[.string (S ([101] : List UInt8)), .bool true] := by rw [pairV, pairTo, if_pos Hh1_.out]; rfl
    have HFIN := Lib.hid hfin
    clear hfin
    go_wp2
    go_ret2
    rw [HFIN.out]
    exact ⟨rfl, rfl⟩
  · have h1_b : ((S p).toList == (S ([101, 99] : List UInt8)).toList) = false := by rw [S_eq]; exact decide_eq_false h1_
    by_cases h2_ : p = ([108, 100] : List UInt8)
    · have h2_b : ((S p).toList == (S ([108, 100] : List UInt8)).toList) = true := by rw [S_eq]; exact decide_eq_true h2_
      have Hh2_ := Lib.hid h2_
      clear h2_
      have hfin : pairV p = .tuple #[.string (S ([101] : List UInt8)), .bool true] := by rw [pairV, pairTo, if_neg h1_, if_pos Hh2_.out]; rfl
      have HFIN := Lib.hid hfin
      clear hfin
      go_wp2
      go_ret2
      rw [HFIN.out]
      exact ⟨rfl, rfl⟩
    · have h2_b : ((S p).toList == (S ([108, 100] : List UInt8)).toList) = false := by rw [S_eq]; exact decide_eq_false h2_
      by_cases h3_ : p = ([108, 114] : List UInt8)
      · have h3_b : ((S p).toList == (S ([108, 114] : List UInt8)).toList) = true := by rw [S_eq]; exact decide_eq_true h3_
        have Hh3_ := Lib.hid h3_
        clear h3_
        have hfin : pairV p = .tuple #[.string (S ([108] : List UInt8)), .bool true] := by rw [pairV, pairTo, if_neg h1_, if_neg h2_, if_pos Hh3_.out]; rfl
        have HFIN := Lib.hid hfin
        clear hfin
        go_wp2
        go_ret2
        rw [HFIN.out]
        exact ⟨rfl, rfl⟩
      · have h3_b : ((S p).toList == (S ([108, 114] : List UInt8)).toList) = false := by rw [S_eq]; exact decide_eq_false h3_
        by_cases h4_ : p = ([101, 100] : List UInt8)
        · have h4_b : ((S p).toList == (S ([101, 100] : List UInt8)).toList) = true := by rw [S_eq]; exact decide_eq_true h4_
          have Hh4_ := Lib.hid h4_
          clear h4_
          have hfin : pairV p = .tuple #[.string (S ([108] : List UInt8)), .bool true] := by rw [pairV, pairTo, if_neg h1_, if_neg h2_, if_neg h3_, if_pos Hh4_.out]; rfl
          have HFIN := Lib.hid hfin
          clear hfin
          go_wp2
          go_ret2
          rw [HFIN.out]
          exact ⟨rfl, rfl⟩
        · have h4_b : ((S p).toList == (S ([101, 100] : List UInt8)).toList) = false := by rw [S_eq]; exact decide_eq_false h4_
          by_cases h5_ : p = ([104, 100] : List UInt8)
          · have h5_b : ((S p).toList == (S ([104, 100] : List UInt8)).toList) = true := by rw [S_eq]; exact decide_eq_true h5_
            have Hh5_ := Lib.hid h5_
            clear h5_
            have hfin : pairV p = .tuple #[.string (S ([104] : List UInt8)), .bool true] := by rw [pairV, pairTo, if_neg h1_, if_neg h2_, if_neg h3_, if_neg h4_, if_pos Hh5_.out]; rfl
            have HFIN := Lib.hid hfin
            clear hfin
            go_wp2
            go_ret2
            rw [HFIN.out]
            exact ⟨rfl, rfl⟩
          · have h5_b : ((S p).toList == (S ([104, 100] : List UInt8)).toList) = false := by rw [S_eq]; exact decide_eq_false h5_
            by_cases h6_ : p = ([104, 99] : List UInt8)
            · have h6_b : ((S p).toList == (S ([104, 99] : List UInt8)).toList) = true := by rw [S_eq]; exact decide_eq_true h6_
              have Hh6_ := Lib.hid h6_
              clear h6_
              have hfin : pairV p = .tuple #[.string (S ([104] : List UInt8)), .bool true] := by rw [pairV, pairTo, if_neg h1_, if_neg h2_, if_neg h3_, if_neg h4_, if_neg h5_, if_pos Hh6_.out]; rfl
              have HFIN := Lib.hid hfin
              clear hfin
              go_wp2
              go_ret2
              rw [HFIN.out]
              exact ⟨rfl, rfl⟩
            · have h6_b : ((S p).toList == (S ([104, 99] : List UInt8)).toList) = false := by rw [S_eq]; exact decide_eq_false h6_
              by_cases h7_ : p = ([104, 114] : List UInt8)
              · have h7_b : ((S p).toList == (S ([104, 114] : List UInt8)).toList) = true := by rw [S_eq]; exact decide_eq_true h7_
                have Hh7_ := Lib.hid h7_
                clear h7_
                have hfin : pairV p = .tuple #[.string (S ([104] : List UInt8)), .bool true] := by rw [pairV, pairTo, if_neg h1_, if_neg h2_, if_neg h3_, if_neg h4_, if_neg h5_, if_neg h6_, if_pos Hh7_.out]; rfl
                have HFIN := Lib.hid hfin
                clear hfin
                go_wp2
                go_ret2
                rw [HFIN.out]
                exact ⟨rfl, rfl⟩
              · have h7_b : ((S p).toList == (S ([104, 114] : List UInt8)).toList) = false := by rw [S_eq]; exact decide_eq_false h7_
                by_cases h8_ : p = ([97, 100] : List UInt8)
                · have h8_b : ((S p).toList == (S ([97, 100] : List UInt8)).toList) = true := by rw [S_eq]; exact decide_eq_true h8_
                  have Hh8_ := Lib.hid h8_
                  clear h8_
                  have hfin : pairV p = .tuple #[.string (S ([97] : List UInt8)), .bool true] := by rw [pairV, pairTo, if_neg h1_, if_neg h2_, if_neg h3_, if_neg h4_, if_neg h5_, if_neg h6_, if_neg h7_, if_pos Hh8_.out]; rfl
                  have HFIN := Lib.hid hfin
                  clear hfin
                  go_wp2
                  go_ret2
                  rw [HFIN.out]
                  exact ⟨rfl, rfl⟩
                · have h8_b : ((S p).toList == (S ([97, 100] : List UInt8)).toList) = false := by rw [S_eq]; exact decide_eq_false h8_
                  by_cases h9_ : p = ([97, 99] : List UInt8)
                  · have h9_b : ((S p).toList == (S ([97, 99] : List UInt8)).toList) = true := by rw [S_eq]; exact decide_eq_true h9_
                    have Hh9_ := Lib.hid h9_
                    clear h9_
                    have hfin : pairV p = .tuple #[.string (S ([97] : List UInt8)), .bool true] := by rw [pairV, pairTo, if_neg h1_, if_neg h2_, if_neg h3_, if_neg h4_, if_neg h5_, if_neg h6_, if_neg h7_, if_neg h8_, if_pos Hh9_.out]; rfl
                    have HFIN := Lib.hid hfin
                    clear hfin
                    go_wp2
                    go_ret2
                    rw [HFIN.out]
                    exact ⟨rfl, rfl⟩
                  · have h9_b : ((S p).toList == (S ([97, 99] : List UInt8)).toList) = false := by rw [S_eq]; exact decide_eq_false h9_
                    by_cases h10_ : p = ([97, 114] : List UInt8)
                    · have h10_b : ((S p).toList == (S ([97, 114] : List UInt8)).toList) = true := by rw [S_eq]; exact decide_eq_true h10_
                      have Hh10_ := Lib.hid h10_
                      clear h10_
                      have hfin : pairV p = .tuple #[.string (S ([97] : List UInt8)), .bool true] := by rw [pairV, pairTo, if_neg h1_, if_neg h2_, if_neg h3_, if_neg h4_, if_neg h5_, if_neg h6_, if_neg h7_, if_neg h8_, if_neg h9_, if_pos Hh10_.out]; rfl
                      have HFIN := Lib.hid hfin
                      clear hfin
                      go_wp2
                      go_ret2
                      rw [HFIN.out]
                      exact ⟨rfl, rfl⟩
                    · have h10_b : ((S p).toList == (S ([97, 114] : List UInt8)).toList) = false := by rw [S_eq]; exact decide_eq_false h10_
                      by_cases h11_ : p = ([100, 100] : List UInt8)
                      · have h11_b : ((S p).toList == (S ([100, 100] : List UInt8)).toList) = true := by rw [S_eq]; exact decide_eq_true h11_
                        have Hh11_ := Lib.hid h11_
                        clear h11_
                        have hfin : pairV p = .tuple #[.string (S ([] : List UInt8)), .bool true] := by rw [pairV, pairTo, if_neg h1_, if_neg h2_, if_neg h3_, if_neg h4_, if_neg h5_, if_neg h6_, if_neg h7_, if_neg h8_, if_neg h9_, if_neg h10_, if_pos Hh11_.out]; rfl
                        have HFIN := Lib.hid hfin
                        clear hfin
                        go_wp2
                        go_ret2
                        rw [HFIN.out]
                        exact ⟨rfl, rfl⟩
                      · have h11_b : ((S p).toList == (S ([100, 100] : List UInt8)).toList) = false := by rw [S_eq]; exact decide_eq_false h11_
                        by_cases h12_ : p = ([99, 99] : List UInt8)
                        · have h12_b : ((S p).toList == (S ([99, 99] : List UInt8)).toList) = true := by rw [S_eq]; exact decide_eq_true h12_
                          have Hh12_ := Lib.hid h12_
                          clear h12_
                          have hfin : pairV p = .tuple #[.string (S ([99] : List UInt8)), .bool true] := by rw [pairV, pairTo, if_neg h1_, if_neg h2_, if_neg h3_, if_neg h4_, if_neg h5_, if_neg h6_, if_neg h7_, if_neg h8_, if_neg h9_, if_neg h10_, if_neg h11_, if_pos Hh12_.out]; rfl
                          have HFIN := Lib.hid hfin
                          clear hfin
                          go_wp2
                          go_ret2
                          rw [HFIN.out]
                          exact ⟨rfl, rfl⟩
                        · have h12_b : ((S p).toList == (S ([99, 99] : List UInt8)).toList) = false := by rw [S_eq]; exact decide_eq_false h12_
                          by_cases h13_ : p = ([114, 114] : List UInt8)
                          · have h13_b : ((S p).toList == (S ([114, 114] : List UInt8)).toList) = true := by rw [S_eq]; exact decide_eq_true h13_
                            have Hh13_ := Lib.hid h13_
                            clear h13_
                            have hfin : pairV p = .tuple #[.string (S ([114] : List UInt8)), .bool true] := by rw [pairV, pairTo, if_neg h1_, if_neg h2_, if_neg h3_, if_neg h4_, if_neg h5_, if_neg h6_, if_neg h7_, if_neg h8_, if_neg h9_, if_neg h10_, if_neg h11_, if_neg h12_, if_pos Hh13_.out]; rfl
                            have HFIN := Lib.hid hfin
                            clear hfin
                            go_wp2
                            go_ret2
                            rw [HFIN.out]
                            exact ⟨rfl, rfl⟩
                          · have h13_b : ((S p).toList == (S ([114, 114] : List UInt8)).toList) = false := by rw [S_eq]; exact decide_eq_false h13_
                            have hfin : pairV p = .tuple #[.string (S ([] : List UInt8)), .bool false] := by rw [pairV, pairTo, if_neg h1_, if_neg h2_, if_neg h3_, if_neg h4_, if_neg h5_, if_neg h6_, if_neg h7_, if_neg h8_, if_neg h9_, if_neg h10_, if_neg h11_, if_neg h12_, if_neg h13_]; rfl
                            have HFIN := Lib.hid hfin
                            clear hfin
                            go_wp2
                            go_ret2
                            rw [HFIN.out]
                            exact ⟨rfl, rfl⟩

/-- 1 for a change. -/
def bitB (b : Bool) : Nat := if b then 1 else 0
theorem pair_len {p q : List UInt8} (hq : pairTo p = some q) : q.length ≤ 1 := by
  have h : ∀ (c : Prop) [Decidable c] (a : List UInt8) (r : Option (List UInt8)), a.length ≤ 1 → (∀ q, r = some q → q.length ≤ 1) → ∀ q, (if c then some a else r) = some q → q.length ≤ 1 := by
    intro c _ a r h1 h2 q
    split
    · intro e; injection e with e; exact e ▸ h1
    · exact h2 q
  unfold pairTo at hq
  refine h _ _ _ (by decide) ?_ q hq
  repeat (refine h _ _ _ (by decide) ?_)
  intro q hq
  cases hq
theorem once_len {n q : List UInt8} {k : Nat} (hk : k + 1 < n.length) (hq : pairTo ((n.drop k).take 2) = some q) : (n.take k ++ (q ++ n.drop (k + 2))).length + 1 ≤ n.length := by
  have e := pair_len hq
  rw [List.length_append, List.length_append, List.length_take, List.length_drop]; omega
theorem simplerPair_yes (p q : List UInt8) (w : World) (hq : pairTo p = some q) : Calls Try.prog 74 #[.string (S p)] w fun e w' => e = .returned (.tuple #[.string (S q), .bool true]) ∧ w = w' :=
  (simplerPair_any p w).mono fun _ _ ⟨e1, e2⟩ => ⟨by rw [e1, pair_yes hq], e2⟩
theorem simplerPair_no (p : List UInt8) (w : World) (hq : pairTo p = none) : Calls Try.prog 74 #[.string (S p)] w fun e w' => e = .returned (.tuple #[.string (S []), .bool false]) ∧ w = w' :=
  (simplerPair_any p w).mono fun _ _ ⟨e1, e2⟩ => ⟨by rw [e1, pair_no hq], e2⟩

theorem simpL_from {l : List UInt8} (h : ruleB l = true) : simpL l = simpFrom l 0 := if_pos h

/-- What changedOnce returns. -/
def Once (n : List UInt8) (e : Ending) : Prop := ∃ (m : List UInt8) (b : Bool), e = .returned (.tuple #[.string (S m), .bool b]) ∧ ruleB m = true ∧ m.length + bitB b ≤ n.length ∧ simpL m = simpL n ∧ (b = false → simpL n = m)
theorem bitB_true : bitB true = 1 := rfl

set_option maxRecDepth 10000 in
set_option maxHeartbeats 2000000 in
theorem changedOnce_any (n : List UInt8) (w : World) (hr : ruleB n = true) :
    Calls Try.prog 45 #[.string (S n)] w fun e w' => Below w.heap.size w w' ∧ Once n e := by
  have hS1 := S_size
  have hS2 : ∀ (l : List UInt8) (k : Nat) (h : k < (S l).size), (S l)[k]'h = l[k]'(by rw [S_size] at h; exact h) := fun _ _ h => S_at2 h
  have hK0 : ({ data := #[] } : ByteArray) = S [] := rfl
  have HRB := Lib.hid hr
  have hn8 := (rule_letters hr).2.2
  have hn1 := (rule_letters hr).2.1
  clear hr
  go_enter Try.func45, Try.ntmps45
  go_wp2
  go_loopw [11] (fun i wr => ∃ k : Nat, i = .int .i64 k ∧ ((k : Int) ≤ (n.length : Int) - 1) ∧ (simpFrom n k = simpL n) ∧ Below w.heap.size w wr ∧ w.heap.size ≤ wr.heap.size) (fun i _ => n.length - (intOf i).toNat)
  case atStart => exact ⟨0, rfl, by omega, (if_pos HRB.out).symm, (Below.refl w.heap.size w), (by first | omega | (simp; omega) | simp)⟩
  case round =>
    obtain ⟨k, rfl, hk, hsf, k2_, k3_⟩ := hrel
    obtain ⟨w1, rfl⟩ : ∃ x, x = wr := ⟨_, rfl⟩
    have HSF := Lib.hid hsf
    clear hsf
    by_cases hlt0 : (k : Int) < (n.length : Int) - 1
    · obtain ⟨k2, hk2⟩ : ∃ m : Nat, m = k + 2 := ⟨_, rfl⟩
      have hx2 : (k : Int) + 2 = (k2 : Int) := by omega
      have hk2a : k2 ≤ k + 2 := by omega
      have hk2b : k + 2 ≤ k2 := by omega
      have HK2 := Lib.hid hk2
      clear hk2
      have hk2l : (k2 : Int) ≤ (n.length : Int) := by omega
      have hx4_a : (k : Int) ≤ (k2 : Int) := by omega
      have hx4_b : (k2 : Int) ≤ (n.length : Int) := by omega
      have hx4_c : (0 : Int) ≤ (k : Int) := by omega
      have hx4_d : (0 : Int) ≤ (k2 : Int) := by omega
      have hx4_e : (k : Int) ≤ (n.length : Int) := by omega
      have hx4_ : (S n).extract k k2 = S ((n.drop k).take 2) := by rw [S_cut]; congr 2; omega
      by_cases h5_ : (pairTo ((n.drop k).take 2)).isSome = true
      · have H5_ := Lib.hid h5_
        clear h5_
        obtain ⟨q, hq⟩ := Option.isSome_iff_exists.1 H5_.out
        have hql := pair_len hq
        have HQ := Lib.hid hq
        clear hq
        go_wp2_with fail
        refine (simplerPair_yes ((n.drop k).take 2) q _ HQ.out).mono ?_
        rintro e w6 ⟨rfl, rfl⟩
        have hx7_l : (k : Int) ≤ (n.length : Int) := by omega
        have hx7_g : (0 : Int) ≤ (k : Int) := by omega
        have hx7_ := S_front (l := n) (m := k)
        have hx8_ : Op.stringOp .add (S (n.take k)) (S q) = pure (.string (S ((n.take k) ++ q))) := S_add (by first | omega | (simp; omega))
        have hx9_l : (k2 : Int) ≤ (n.length : Int) := by omega
        have hx9_g : (0 : Int) ≤ (k2 : Int) := by omega
        have hx9_ : (S n).extract k2 n.length = S (n.drop k2) := S_back rfl
        have hx10_ : Op.stringOp .add (S ((n.take k) ++ q)) (S (n.drop k2)) = pure (.string (S ((n.take k) ++ (q ++ (n.drop k2))))) := by rw [S_add (l := ((n.take k) ++ q)) (m := (n.drop k2)) (by first | omega | (simp; omega)), List.append_assoc]
        go_wp2
        go_quiet (fail)
        obtain ⟨w11, hw11⟩ : ∃ x, x = w1.drewN nq := ⟨_, rfl⟩
        have hb12_ : Below w1.heap.size w1 w11 := by rw [hw11]; exact below_drewN (Below.refl _ _) _
        rw [← hw11]
        clear hw11
        have z14_ := hb12_.size
        have B15_ := k2_.trans (hb12_.mono (by first | omega | (simp; omega) | simp))
        clear hb12_
        have ht := (pair_turn HRB.out (by omega)).1 q HQ.out
        have hm2 := once_len (by omega) HQ.out
        rw [← HK2.out] at ht hm2
        have hm1 := (keeps_turn HRB.out (k := k) (by omega)).1
        rw [ht] at hm1
        have hm3 := simp_turn (l := n) (k := k) (by omega) (fun e => by rw [ht] at e; rw [e] at hm2; omega)
        rw [HSF.out, ht, ← simpL_from hm1] at hm3
        have HM1 := Lib.hid hm1
        have HM2 := Lib.hid hm2
        have HM3 := Lib.hid hm3
        clear ht hm1 hm2 hm3
        go_wp2
        go_ret2
        exact ⟨B15_, ⟨_, true, rfl, HM1.out, HM2.out, HM3.out.symm, fun e => by cases e⟩⟩
      · have H5_ : Hid ((pairTo ((n.drop k).take 2)).isSome = false) := by show _ = _; simpa using h5_
        clear h5_
        have HQ : Hid (pairTo ((n.drop k).take 2) = none) := by have e := H5_.out; show _ = _; cases z : pairTo ((n.drop k).take 2) with | none => rfl | some y => rw [z] at e; cases e
        go_wp2_with fail
        refine (simplerPair_no ((n.drop k).take 2) _ HQ.out).mono ?_
        rintro e w6 ⟨rfl, rfl⟩
        go_wp2
        go_roundw
        case rel => exact ⟨k + 1, by go_num, by omega, by rw [← simp_stay (by omega) ((pair_turn HRB.out (by omega)).2 HQ.out)]; exact HSF.out, k2_, (by first | omega | (simp; omega) | simp)⟩
        case measure => simp [intOf] <;> omega
    · have hfin := HSF.out
      rw [simp_done (by omega)] at hfin
      have HFIN := Lib.hid hfin
      clear hfin
      go_wp2
      go_ret2
      exact ⟨k2_, ⟨_, false, rfl, HRB.out, Nat.le_refl _, rfl, fun _ => HFIN.out.symm⟩⟩

/-- 1 for a truth. -/
def bitV : Value → Nat
  | .bool b => bitB b
  | _ => 0

set_option maxRecDepth 10000 in
set_option maxHeartbeats 1000000 in
theorem implSimplerRule_yes (l : List UInt8) (w : World) (hl : l.length ≤ 1152921504606846976) (hrb : ruleB l = true) :
    Calls Try.prog 20 #[.string (S l)] w fun e w' => e = .returned (.string (S (simpL l))) ∧ Below w.heap.size w w' := by
  have hS1 := S_size
  have hS2 : ∀ (l : List UInt8) (k : Nat) (h : k < (S l).size), (S l)[k]'h = l[k]'(by rw [S_size] at h; exact h) := fun _ _ h => S_at2 h
  have hK0 : ({ data := #[] } : ByteArray) = S [] := rfl
  have HRB := Lib.hid hrb
  have hl8 := (rule_letters hrb).2.2
  clear hrb
  go_enter Try.func20, Try.ntmps20
  go_wp2_with fail
  refine (implRuleOk_same l _ hl).mono ?_
  rintro e w' ⟨he, rfl⟩
  rw [HRB.out] at he
  subst he
  go_wp2_with fail
  refine (changedOnce_any l _ HRB.out).mono ?_
  rintro e w1 ⟨hb2_, ⟨m3_, b4_, rfl, ho5_, ho6_, ho7_, ho8_⟩⟩
  have z9_ := hb2_.size
  have B10_ := (Below.refl w.heap.size w).trans (hb2_.mono (by first | omega | (simp; omega) | simp))
  clear hb2_
  have HO5_ := Lib.hid ho5_
  have HO6_ := Lib.hid ho6_
  have HO7_ := Lib.hid ho7_
  have HO8_ := Lib.hid ho8_
  clear ho5_ ho6_ ho7_ ho8_
  have hn8m3_ := (rule_letters HO5_.out).2.2
  have hn7m3_ := HO6_.out
  go_wp2
  go_loopw [3, 4] (fun s cg wr => ∃ n : List UInt8, ∃ b : Bool, s = .string (S n) ∧ cg = .bool b ∧ (ruleB n = true) ∧ (n.length ≤ l.length) ∧ (simpL n = simpL l) ∧ (b = false → simpL l = n) ∧ Below w.heap.size w wr ∧ w1.heap.size ≤ wr.heap.size) (fun s cg _ => lenV s + bitV cg)
  case atStart => exact ⟨m3_, b4_, rfl, rfl, HO5_.out, by have e := HO6_.out; omega, HO7_.out, fun e => HO8_.out e, B10_, (by first | omega | (simp; omega) | simp)⟩
  case round =>
    obtain ⟨n, b, rfl, rfl, hn, hn8, hsl, hbf_, k12_, k13_⟩ := hrel
    obtain ⟨w11, rfl⟩ : ∃ x, x = wr := ⟨_, rfl⟩
    have HN := Lib.hid hn
    have HSL := Lib.hid hsl
    have HBF := Lib.hid hbf_
    clear hn hsl hbf_
    by_cases hlt0 : b = true
    · obtain rfl : b = true := hlt0
      clear HBF
      go_wp2_with fail
      refine (changedOnce_any n _ HN.out).mono ?_
      rintro e w14 ⟨hb15_, ⟨m16_, b17_, rfl, ho18_, ho19_, ho20_, ho21_⟩⟩
      have z22_ := hb15_.size
      have B23_ := k12_.trans (hb15_.mono (by first | omega | (simp; omega) | simp))
      clear hb15_
      have HO18_ := Lib.hid ho18_
      have HO19_ := Lib.hid ho19_
      have HO20_ := Lib.hid ho20_
      have HO21_ := Lib.hid ho21_
      clear ho18_ ho19_ ho20_ ho21_
      have hn8m16_ := (rule_letters HO18_.out).2.2
      have hn7m16_ := HO19_.out
      go_wp2
      go_roundw
      case rel => exact ⟨m16_, b17_, rfl, rfl, HO18_.out, by have e := HO19_.out; omega, by rw [HO20_.out]; exact HSL.out, fun e => by rw [← HO21_.out e]; exact HSL.out.symm, B23_, (by first | omega | (simp; omega) | simp)⟩
      case measure => simp [lenV_S, bitV, bitB_true] <;> omega
    · obtain rfl : b = false := by simpa using hlt0
      have HFIN := Lib.hid (HBF.out rfl)
      clear HBF hlt0
      go_wp2_with fail
      refine (stringsClone_any n _ (by omega)).mono ?_
      rintro e w14 ⟨rfl, hb15_⟩
      have z16_ := hb15_.size
      have B17_ := k12_.trans (hb15_.mono (by first | omega | (simp; omega) | simp))
      clear hb15_
      go_wp2
      go_ret
      exact ⟨ret_str HFIN.out.symm, B17_⟩

set_option maxRecDepth 10000 in
set_option maxHeartbeats 1000000 in
theorem implSimplerRule_no (l : List UInt8) (w : World) (hl : l.length ≤ 1152921504606846976) (hrb : ruleB l = false) :
    Calls Try.prog 20 #[.string (S l)] w fun e w' => e = .returned (.string (S (simpL l))) ∧ Below w.heap.size w w' := by
  have hS1 := S_size
  have hS2 : ∀ (l : List UInt8) (k : Nat) (h : k < (S l).size), (S l)[k]'h = l[k]'(by rw [S_size] at h; exact h) := fun _ _ h => S_at2 h
  have hK0 : ({ data := #[] } : ByteArray) = S [] := rfl
  have HRB := Lib.hid hrb
  clear hrb
  go_enter Try.func20, Try.ntmps20
  go_wp2_with fail
  refine (implRuleOk_same l _ hl).mono ?_
  rintro e w' ⟨he, rfl⟩
  rw [HRB.out] at he
  subst he
  go_wp2
  go_ret
  exact ⟨ret_str (simpL_no HRB.out).symm, Below.refl _ _⟩

theorem implSimplerRule_any (l : List UInt8) (w : World) (hl : l.length ≤ 1152921504606846976) : Calls Try.prog 20 #[.string (S l)] w fun e w' => e = .returned (.string (S (simpL l))) ∧ Below w.heap.size w w' := by
  by_cases h : ruleB l = true
  · exact implSimplerRule_yes l w hl h
  · exact implSimplerRule_no l w hl (by simpa using h)


end Go.Proofs.Ytkkdolbbioeknaa
