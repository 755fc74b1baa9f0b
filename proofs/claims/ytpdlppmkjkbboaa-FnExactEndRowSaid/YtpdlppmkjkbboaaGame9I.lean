/-
  Chapter 9 of the program: BidsOk, TakersOf, FairRow, SurplusOf, PaidRow, EndRow. No condition but lengths that fit.
-/
import Derived.Test.YtpdlppmkjkbboaaSpec9
import Derived.Test.YtpdlppmkjkbboaaGA
namespace Go.Proofs.Ytpdlppmkjkbboaa
open Go.RowKit

/-! Rows filled from the left. -/
def firstOf (f : Nat → Int) (k : Nat) : Nat → Int := fun i => if i < k then f i else 0
theorem firstOf_zero (f : Nat → Int) (n : Nat) : fnRow n (firstOf f 0) = List.replicate n 0 := by
  rw [← fnRow_zero]; exact fnRow_congr fun i _ => if_neg (by omega)
theorem firstOf_all (f : Nat → Int) (n : Nat) : fnRow n (firstOf f n) = fnRow n f := fnRow_congr fun _ h => if_pos h
theorem firstOf_step {f : Nat → Int} {n k : Nat} {v : Int} (hv : v = f k) : (fnRow n (firstOf f k)).set k v = fnRow n (firstOf f (k + 1)) := by
  refine fnRow_set (fun i _ hn => ?_) ?_
  · show (if i < k then f i else 0) = (if i < k + 1 then f i else 0)
    by_cases e : i < k
    · rw [if_pos e, if_pos (by omega)]
    · rw [if_neg e, if_neg (by omega)]
  · show v = (if k < k + 1 then f k else 0)
    rw [if_pos (by omega), hv]

/-! BidsOk. -/
theorem all_of_ok {B : List (List Int)} (q : BidOk B) {k : Nat} {y : List Int} (hk : k < B.length) (hy : B.getD k [] = y) : allB 12 y = true := (allB_iff _ _).2 fun x hx => by
  obtain ⟨j, hj, rfl⟩ := List.mem_iff_getElem.1 hx
  have e := q.2.2.2 k hk
  have e2 := e.2 j (by rw [← e.1, hy]; exact hj)
  unfold bid at e2
  rwa [hy, getD_of_lt y j hj] at e2
theorem bids_of_all {B : List (List Int)} {k m : Nat} {y : List Int} (hy : B.getD k [] = y) (ha : allB 12 y = true) (hm : m ≤ y.length) : BidsTo B k m := fun j hj => by
  unfold bid
  rw [hy, getD_of_lt y j (by omega)]
  exact (allB_iff _ _).1 ha _ (List.getElem_mem (by omega))

/-! TakersOf. -/
def mid9 (B : List (List Int)) (j k : Nat) : Nat → Int := fun i => if i < j then (best B i : Int) else if i = j then (bestTo B j k : Int) else 0
theorem mid9_zero (B : List (List Int)) (n : Nat) : fnRow n (mid9 B 0 0) = List.replicate n 0 := by
  rw [← fnRow_zero]
  refine fnRow_congr fun i _ => ?_
  show (if i < 0 then (best B i : Int) else if i = 0 then (bestTo B 0 0 : Int) else 0) = 0
  rw [if_neg (by omega)]; split <;> rfl
theorem mid9_next (B : List (List Int)) (n j : Nat) : fnRow n (mid9 B j B.length) = fnRow n (mid9 B (j + 1) 0) := fnRow_congr fun i _ => by
  show (if i < j then (best B i : Int) else if i = j then (bestTo B j B.length : Int) else 0) = (if i < j + 1 then (best B i : Int) else if i = j + 1 then (bestTo B (j + 1) 0 : Int) else 0)
  by_cases e : i < j
  · rw [if_pos e, if_pos (by omega)]
  · by_cases e2 : i = j
    · subst e2
      rw [if_neg e, if_pos rfl, if_pos (by omega)]; rfl
    · rw [if_neg e, if_neg e2, if_neg (by omega)]; split <;> rfl
theorem mid9_all (B : List (List Int)) (n : Nat) : fnRow n (mid9 B n 0) = fnRow n (fun j => (best B j : Int)) := fnRow_congr fun _ h => if_pos h
theorem mid9_at {B : List (List Int)} {n j k : Nat} (hj : j < n) : (fnRow n (mid9 B j k)).getD j 0 = (bestTo B j k : Int) := by
  rw [fnRow_getD _ hj]
  show (if j < j then (best B j : Int) else if j = j then (bestTo B j k : Int) else 0) = _
  rw [if_neg (by omega), if_pos rfl]
theorem mid9_rg {B : List (List Int)} (h : bidB B = true) {n j k : Nat} (hj : j < n) (hk : k ≤ B.length) : 0 ≤ (fnRow n (mid9 B j k)).getD j 0 ∧ (fnRow n (mid9 B j k)).getD j 0 < (B.length : Int) := by
  rw [mid9_at hj]
  have e := bidB_bd h
  cases k with
  | zero => show (0 : Int) ≤ ((0 : Nat) : Int) ∧ ((0 : Nat) : Int) < _; omega
  | succ k => have q := bestTo_lt B j k; omega
theorem mid9_take {B : List (List Int)} {n j k x : Nat} {v a b : Int} (hj : j < n) (hv : v = (fnRow n (mid9 B j k)).getD j 0) (hx : v = (x : Int)) (ha : a = bid B k j) (hb : b = bid B x j) (hab : a > b) : (fnRow n (mid9 B j k)).set j (k : Int) = fnRow n (mid9 B j (k + 1)) := by
  have e : bestTo B j k = x := by rw [mid9_at hj] at hv; omega
  refine fnRow_set (fun i _ hn => ?_) ?_
  · show (if i < j then (best B i : Int) else if i = j then (bestTo B j k : Int) else 0) = (if i < j then (best B i : Int) else if i = j then (bestTo B j (k + 1) : Int) else 0)
    rw [if_neg hn, if_neg hn]
  · show (k : Int) = (if j < j then (best B j : Int) else if j = j then (bestTo B j (k + 1) : Int) else 0)
    rw [if_neg (by omega), if_pos rfl, bestTo, e, if_pos (by omega)]
theorem mid9_keep {B : List (List Int)} {n j k x : Nat} {v a b : Int} (hj : j < n) (hv : v = (fnRow n (mid9 B j k)).getD j 0) (hx : v = (x : Int)) (ha : a = bid B k j) (hb : b = bid B x j) (hab : ¬ a > b) : fnRow n (mid9 B j k) = fnRow n (mid9 B j (k + 1)) := by
  have e : bestTo B j k = x := by rw [mid9_at hj] at hv; omega
  refine fnRow_congr fun i _ => ?_
  show (if i < j then (best B i : Int) else if i = j then (bestTo B j k : Int) else 0) = (if i < j then (best B i : Int) else if i = j then (bestTo B j (k + 1) : Int) else 0)
  rw [show bestTo B j (k + 1) = bestTo B j k from by rw [bestTo, e, if_neg (by omega)]]

set_option maxRecDepth 10000 in
set_option maxHeartbeats 1000000 in
theorem implBidsOk_any (A : Option Addr) (c : Nat) (B : List (List Int)) (w : World) (lo hi : Nat) (h : Grid w lo hi A B) (_hh : hi ≤ w.heap.size) (hl : B.length ≤ 1152921504606846976) :
    Calls Try.prog 17 #[.slice A B.length c] w fun e w' => e = .returned (.bool (bidB B)) ∧ Below w.heap.size w w' := by
  go_enter Try.func17, Try.ntmps17
  by_cases h1_ : (B.length : Int) < 2
  · have h1_d : decide ((B.length : Int) < 2) = true := decide_eq_true h1_
    go_wp2
    go_ret
    exact ⟨ret_bool (by symm; exact bids_no (fun q => by have e1 := q.1; have e2 := q.2.1; omega)), (Below.refl w.heap.size w)⟩
  · have h1_d : decide ((B.length : Int) < 2) = false := decide_eq_false h1_
    by_cases h2_ : (B.length : Int) > 4
    · have h2_d : decide ((B.length : Int) > 4) = true := decide_eq_true h2_
      go_wp2
      go_ret
      exact ⟨ret_bool (by symm; exact bids_no (fun q => by have e1 := q.1; have e2 := q.2.1; omega)), (Below.refl w.heap.size w)⟩
    · have h2_d : decide ((B.length : Int) > 4) = false := decide_eq_false h2_
      obtain ⟨b3_, f4_, rfl, _, b3_h, -⟩ := h (by omega)
      obtain ⟨D5_, d6_, c7_, F8_, rm10_⟩ := h.at_ 0 (by omega)
      obtain ⟨y9_, hy9_⟩ : ∃ y_, B.getD 0 [] = y_ := ⟨_, rfl⟩
      rw [hy9_] at c7_ F8_ rm10_
      have Hy9_ := Lib.hid hy9_
      clear hy9_
      have c7_ : w.cell? ⟨b3_, f4_, none⟩ = some (.slice D5_ y9_.length d6_) := c7_
      have c7_i : 0 < (B.length : Int) := by omega
      have c7_j : (0 : Int) ≤ 0 := by omega
      have c7_n : 0 < B.length := by omega
      by_cases h11_ : (y9_.length : Int) > 4
      · have h11_d : decide ((y9_.length : Int) > 4) = true := decide_eq_true h11_
        go_wp2
        go_ret
        exact ⟨ret_bool (by symm; exact bids_no (fun q => by have q3 := q.2.2.1; unfold things at q3; rw [Hy9_.out] at q3; omega)), (Below.refl w.heap.size w)⟩
      · have h11_d : decide ((y9_.length : Int) > 4) = false := decide_eq_false h11_
        go_wp2
        go_loopw [22] (fun i wr => ∃ k : Nat, i = .int .i64 k ∧ (k ≤ B.length) ∧ (PeopleTo B k) ∧ Below w.heap.size w wr ∧ w.heap.size ≤ wr.heap.size ∧ Grid wr (lo) (hi) (some ⟨b3_, f4_, none⟩) B ∧ Ints wr (lo) (hi) D5_ y9_) (fun i _ => B.length - (intOf i).toNat)
        case atStart => exact ⟨0, rfl, Nat.zero_le _, PeopleTo.zero B, (Below.refl w.heap.size w), (by first | omega | (simp; omega) | simp), h, F8_⟩
        case round =>
          obtain ⟨k, rfl, hk, hpt, k13_, k14_, k15_, k16_⟩ := hrel
          obtain ⟨w12, rfl⟩ : ∃ x, x = wr := ⟨_, rfl⟩
          have HPT := Lib.hid hpt
          clear hpt
          by_cases hlt0 : k < B.length
          · obtain ⟨D17_, d18_, c19_, F20_, rm22_⟩ := k15_.at_ k (by omega)
            obtain ⟨y21_, hy21_⟩ : ∃ y_, B.getD k [] = y_ := ⟨_, rfl⟩
            rw [hy21_] at c19_ F20_ rm22_
            have Hy21_ := Lib.hid hy21_
            clear hy21_
            have c19_ : w12.cell? ⟨b3_, f4_ + k, none⟩ = some (.slice D17_ y21_.length d18_) := c19_
            have c19_i : (k : Int) < (B.length : Int) := by omega
            have c19_j : (0 : Int) ≤ (k : Int) := by omega
            obtain ⟨D23_, d24_, c25_, F26_, rm28_⟩ := k15_.at_ 0 (by omega)
            rw [Hy9_.out] at c25_ F26_ rm28_
            have c25_ : w12.cell? ⟨b3_, f4_, none⟩ = some (.slice D23_ y9_.length d24_) := c25_
            have c25_i : 0 < (B.length : Int) := by omega
            have c25_j : (0 : Int) ≤ 0 := by omega
            have c25_n : 0 < B.length := by omega
            by_cases h29_ : (y21_.length : Int) = (y9_.length : Int)
            · have h29_b : ((y21_.length : Int) == (y9_.length : Int)) = true := by simpa using h29_
              have h29_n : ((y21_.length : Int) != (y9_.length : Int)) = false := by simpa using h29_
              have h29_le : (y21_.length : Int) ≤ (y9_.length : Int) := by omega
              have h29_ge : (y9_.length : Int) ≤ (y21_.length : Int) := by omega
              have Hh29_ := Lib.hid h29_
              clear h29_
              by_cases h30_ : allB 12 y21_ = true
              · have H30_ := Lib.hid h30_
                clear h30_
                go_wp2_with fail
                refine (allUpTo_any 12 D17_ d18_ y21_ _ _ _ F20_ (by omega)).mono ?_
                rintro e w' ⟨he, rfl⟩
                rw [H30_.out] at he
                subst he
                go_wp2
                go_roundw
                case rel => exact ⟨k + 1, by go_num, by omega, HPT.out.more (by rw [Hy21_.out]; unfold things; rw [Hy9_.out]; omega) (by unfold things; rw [Hy9_.out]; omega) (bids_of_all Hy21_.out H30_.out (by unfold things; rw [Hy9_.out]; omega)), k13_, (by first | omega | (simp; omega) | simp), k15_, k16_⟩
                case measure => simp [intOf] <;> omega
              · have H30_ : Hid (allB 12 y21_ = false) := by show _ = _; simpa using h30_
                clear h30_
                go_wp2_with fail
                refine (allUpTo_any 12 D17_ d18_ y21_ _ _ _ F20_ (by omega)).mono ?_
                rintro e w' ⟨he, rfl⟩
                rw [H30_.out] at he
                subst he
                go_wp2
                go_ret
                exact ⟨ret_bool (by symm; exact bids_no (fun q => by have e := all_of_ok q (k := k) (by omega) Hy21_.out; rw [H30_.out] at e; cases e)), k13_⟩
            · have h29_b : ((y21_.length : Int) == (y9_.length : Int)) = false := by simpa using h29_
              have h29_n : ((y21_.length : Int) != (y9_.length : Int)) = true := by simpa using h29_
              go_wp2
              go_ret
              exact ⟨ret_bool (by symm; exact bids_no (fun q => by have q2 := (q.2.2.2 k (by omega)).1; rw [Hy21_.out] at q2; unfold things at q2; rw [Hy9_.out] at q2; omega)), k13_⟩
          · obtain rfl : k = B.length := by omega
            go_wp2
            go_ret
            exact ⟨ret_bool (by symm; exact people_ok HPT.out (by omega) (by omega)), k13_⟩

set_option maxRecDepth 10000 in
set_option maxHeartbeats 2000000 in
theorem implTakersOf_yes (A : Option Addr) (c : Nat) (B : List (List Int)) (w : World) (lo hi : Nat) (h : Grid w lo hi A B) (hh : hi ≤ w.heap.size) (hl : B.length ≤ 1152921504606846976) (hb : bidB B = true) :
    Calls Try.prog 20 #[.slice A B.length c] w (RetInts w (takersRow B)) := by
  have HBO := Lib.hid hb
  have hbd := bidB_bd hb
  obtain ⟨hB2, hB4, hT4⟩ := hbd
  clear hb
  go_enter Try.func20, Try.ntmps20
  go_wp2_with fail
  refine (implBidsOk_any A c B _ _ _ h (by first | omega | (simp; omega) | simp) hl).mono ?_
  rintro e w1 ⟨he, hb1_⟩
  rw [HBO.out] at he
  subst he
  have o2_ := h.below hb1_ (by first | omega | (simp; omega) | simp)
  have z3_ := hb1_.size
  have B4_ := (Below.refl w.heap.size w).trans (hb1_.mono (by first | omega | (simp; omega) | simp))
  clear hb1_
  obtain ⟨b5_, f6_, rfl, _, b5_h, -⟩ := o2_ (by omega)
  obtain ⟨D7_, d8_, c9_, F10_, rm12_⟩ := o2_.at_ 0 (by omega)
  obtain ⟨y11_, hy11_⟩ : ∃ y_, B.getD 0 [] = y_ := ⟨_, rfl⟩
  rw [hy11_] at c9_ F10_ rm12_
  have qy11_ := row_th HBO.out (k := 0) (by omega) hy11_
  obtain ⟨qy11_a, qy11_b⟩ := qy11_
  have Hy11_ := Lib.hid hy11_
  clear hy11_
  have c9_ : w1.cell? ⟨b5_, f6_, none⟩ = some (.slice D7_ y11_.length d8_) := c9_
  have c9_i : 0 < (B.length : Int) := by omega
  have c9_j : (0 : Int) ≤ 0 := by omega
  have c9_n : 0 < B.length := by omega
  go_upto_region 4 with (at_make; (refine make_gr (by rfl) _ _ (by rfl) (n := y11_.length) (x := (y11_.length : Int)) (by omega) (by rfl) (by rfl) (by omega) ?_; intro w13 G13_ hb14_))
  have o16_ := o2_.below hb14_ (by first | omega | (simp; omega) | simp)
  have o17_ := F10_.below hb14_ (by first | omega | (simp; omega) | simp)
  have z18_ := hb14_.size
  have B19_ := B4_.trans (hb14_.mono (by first | omega | (simp; omega) | simp))
  clear hb14_
  have l20_ := G13_.lt
  have HL21_ : Hid ((List.replicate y11_.length 0).length = y11_.length) := List.length_replicate
  go_wp2
  go_loopw [17] (fun i wr => ∃ j : Nat, i = .int .i64 j ∧ (j ≤ y11_.length) ∧ Grow wr w1.heap.size y11_.length (fnRow y11_.length (mid9 B j 0)) ∧ Below w.heap.size w wr ∧ w13.heap.size ≤ wr.heap.size ∧ Grid wr (lo) (hi) (some ⟨b5_, f6_, none⟩) B ∧ Ints wr (lo) (hi) D7_ y11_) (fun i _ => y11_.length - (intOf i).toNat)
  case atStart => exact ⟨0, rfl, Nat.zero_le _, (by rw [mid9_zero]; exact G13_), B19_, (by first | omega | (simp; omega) | simp), o16_, o17_⟩
  case round =>
    obtain ⟨j, rfl, hj, G23_, k24_, k25_, k26_, k27_⟩ := hrel
    obtain ⟨w22, rfl⟩ : ∃ x, x = wr := ⟨_, rfl⟩
    have HL28_ : Hid ((fnRow y11_.length (mid9 B j 0)).length = y11_.length) := (fnRow_length _ _)
    have l29_ := G23_.lt
    by_cases hlt0 : j < y11_.length
    · go_wp2
      go_loopw [22] (fun ii wr => ∃ k : Nat, ii = .int .i64 k ∧ (k ≤ B.length) ∧ Grow wr w1.heap.size y11_.length (fnRow y11_.length (mid9 B j k)) ∧ Below w.heap.size w wr ∧ w22.heap.size ≤ wr.heap.size ∧ Grid wr (lo) (hi) (some ⟨b5_, f6_, none⟩) B ∧ Ints wr (lo) (hi) D7_ y11_) (fun ii _ => B.length - (intOf ii).toNat)
      case atStart => exact ⟨0, rfl, Nat.zero_le _, G23_, k24_, (by first | omega | (simp; omega) | simp), k26_, k27_⟩
      case round =>
        obtain ⟨k, rfl, hk, G31_, k32_, k33_, k34_, k35_⟩ := hrel
        obtain ⟨w30, rfl⟩ : ∃ x, x = wr := ⟨_, rfl⟩
        have HL36_ : Hid ((fnRow y11_.length (mid9 B j k)).length = y11_.length) := (fnRow_length _ _)
        have l37_ := G31_.lt
        by_cases hlt2 : k < B.length
        · obtain ⟨D38_, d39_, c40_, F41_, rm43_⟩ := k34_.at_ k (by omega)
          obtain ⟨y42_, hy42_⟩ : ∃ y_, B.getD k [] = y_ := ⟨_, rfl⟩
          rw [hy42_] at c40_ F41_ rm43_
          have qy42_ := row_th HBO.out (k := k) (by omega) hy42_
          obtain ⟨qy42_a, qy42_b⟩ := qy42_
          have Hy42_ := Lib.hid hy42_
          clear hy42_
          have c40_ : w30.cell? ⟨b5_, f6_ + k, none⟩ = some (.slice D38_ y42_.length d39_) := c40_
          have c40_i : (k : Int) < (B.length : Int) := by omega
          have c40_j : (0 : Int) ≤ (k : Int) := by omega
          obtain ⟨b44_, f45_, rfl, _, b44_h, -⟩ := F41_ (by omega)
          have c46_ : w30.cell? ⟨b44_, f45_ + j, none⟩ = some (.int .i64 (y42_.getD j 0)) := F41_.at2 j (by first | omega | (simp; omega) | simp)
          have c46_i : (j : Int) < (y42_.length : Int) := by omega
          have c46_j : (0 : Int) ≤ (j : Int) := by omega
          have v47_g := (show 0 ≤ y42_.getD j 0 ∧ y42_.getD j 0 ≤ 12 from by rw [← Hy42_.out]; exact bid_rg HBO.out _ _)
          obtain ⟨v47_, hv47_⟩ : ∃ v, v = y42_.getD j 0 := ⟨_, rfl⟩
          rw [← hv47_] at c46_ v47_g
          have Hv47_ := Lib.hid hv47_
          clear hv47_
          obtain ⟨v47_g1, v47_g2⟩ := v47_g
          have c48_ : w30.cell? ⟨w1.heap.size, j, none⟩ = some (.int .i64 ((fnRow y11_.length (mid9 B j k)).getD j 0)) := G31_.at_ j (by rw [fnRow_length]; omega)
          have c48_i : (j : Int) < (y11_.length : Int) := by omega
          have c48_j : (0 : Int) ≤ (j : Int) := by omega
          have v49_g := mid9_rg HBO.out (j := j) (k := k) (by omega) (by omega)
          obtain ⟨v49_, hv49_⟩ : ∃ v, v = (fnRow y11_.length (mid9 B j k)).getD j 0 := ⟨_, rfl⟩
          rw [← hv49_] at c48_ v49_g
          have Hv49_ := Lib.hid hv49_
          clear hv49_
          obtain ⟨v49_g1, v49_g2⟩ := v49_g
          obtain ⟨x50_, hx50_⟩ : ∃ x : Nat, v49_ = (x : Int) := ⟨(v49_).toNat, by omega⟩
          have Hx50_ := Lib.hid hx50_
          have x50_b : x50_ < B.length := by omega
          obtain ⟨D51_, d52_, c53_, F54_, rm56_⟩ := k34_.at_ x50_ (by omega)
          obtain ⟨y55_, hy55_⟩ : ∃ y_, B.getD x50_ [] = y_ := ⟨_, rfl⟩
          rw [hy55_] at c53_ F54_ rm56_
          have qy55_ := row_th HBO.out (k := x50_) (by omega) hy55_
          obtain ⟨qy55_a, qy55_b⟩ := qy55_
          have Hy55_ := Lib.hid hy55_
          clear hy55_
          have c53_ : w30.cell? ⟨b5_, f6_ + x50_, none⟩ = some (.slice D51_ y55_.length d52_) := c53_
          have c53_i : (x50_ : Int) < (B.length : Int) := by omega
          have c53_j : (0 : Int) ≤ (x50_ : Int) := by omega
          obtain ⟨b57_, f58_, rfl, _, b57_h, -⟩ := F54_ (by omega)
          have c59_ : w30.cell? ⟨b57_, f58_ + j, none⟩ = some (.int .i64 (y55_.getD j 0)) := F54_.at2 j (by first | omega | (simp; omega) | simp)
          have c59_i : (j : Int) < (y55_.length : Int) := by omega
          have c59_j : (0 : Int) ≤ (j : Int) := by omega
          have v60_g := (show 0 ≤ y55_.getD j 0 ∧ y55_.getD j 0 ≤ 12 from by rw [← Hy55_.out]; exact bid_rg HBO.out _ _)
          obtain ⟨v60_, hv60_⟩ : ∃ v, v = y55_.getD j 0 := ⟨_, rfl⟩
          rw [← hv60_] at c59_ v60_g
          have Hv60_ := Lib.hid hv60_
          clear hv60_
          obtain ⟨v60_g1, v60_g2⟩ := v60_g
          go_wp2
          go_quiet (fail)
          obtain ⟨w61, hw61⟩ : ∃ x, x = w30.drewN nq := ⟨_, rfl⟩
          have hb62_ : Below w30.heap.size w30 w61 := by rw [hw61]; exact below_drewN (Below.refl _ _) _
          rw [← hw61]
          clear hw61
          have o64_ := k34_.below hb62_ (by first | omega | (simp; omega) | simp)
          have o65_ := k35_.below hb62_ (by first | omega | (simp; omega) | simp)
          have o66_ := G31_.below hb62_ (by first | omega | (simp; omega) | simp)
          have o67_ := F41_.below hb62_ (by first | omega | (simp; omega) | simp)
          have o68_ := F54_.below hb62_ (by first | omega | (simp; omega) | simp)
          have z69_ := hb62_.size
          have B70_ := k32_.trans (hb62_.mono (by first | omega | (simp; omega) | simp))
          clear hb62_
          by_cases h71_ : v47_ > v60_
          · have h71_d : decide (v47_ > v60_) = true := decide_eq_true h71_
            have c73_ := o66_.at_ j (by rw [fnRow_length]; omega)
            have c73_f := o66_.soft j (by rw [fnRow_length]; omega)
            have c73_i : (j : Int) < (y11_.length : Int) := by omega
            have c73_j : (0 : Int) ≤ (j : Int) := by omega
            have hC72_ := Chg.setCell (lo := w1.heap.size) (hi := w1.heap.size + 1) w61 (p := ⟨w1.heap.size, j, none⟩) ⟨Nat.le_refl _, Nat.lt_succ_self _⟩ (.int .i64 (k : Int))
            have G74_ := o66_.store j (k : Int)
            have o75_ := o64_.chg hC72_ (by first | omega | (simp; omega) | simp) (by omega)
            have o76_ := o65_.chg hC72_ (by first | omega | (simp; omega) | simp) (by omega)
            have o77_ := o67_.chg hC72_ (by first | omega | (simp; omega) | simp) (by omega)
            have o78_ := o68_.chg hC72_ (by first | omega | (simp; omega) | simp) (by omega)
            have z79_ := hC72_.size
            try simp at z79_
            have B80_ := B70_.trans (hC72_.below (by omega) (by first | omega | (simp; omega) | simp))
            clear hC72_
            go_wp2
            go_roundw
            case rel => exact ⟨k + 1, by go_num, by omega, (by rw [← mid9_take (x := x50_) (v := v49_) (a := v47_) (b := v60_) (by omega) Hv49_.out Hx50_.out (by unfold bid; rw [Hy42_.out]; exact Hv47_.out) (by unfold bid; rw [Hy55_.out]; exact Hv60_.out) (by omega)]; exact G74_), B80_, (by first | omega | (simp; omega) | simp), o75_, o76_⟩
            case measure => simp [intOf] <;> omega
          · have h71_d : decide (v47_ > v60_) = false := decide_eq_false h71_
            go_wp2
            go_roundw
            case rel => exact ⟨k + 1, by go_num, by omega, (by rw [← mid9_keep (x := x50_) (v := v49_) (a := v47_) (b := v60_) (by omega) Hv49_.out Hx50_.out (by unfold bid; rw [Hy42_.out]; exact Hv47_.out) (by unfold bid; rw [Hy55_.out]; exact Hv60_.out) (by omega)]; exact o66_), B70_, (by first | omega | (simp; omega) | simp), o64_, o65_⟩
            case measure => simp [intOf] <;> omega
        · obtain rfl : k = B.length := by omega
          go_wp2
          go_roundw
          case rel => exact ⟨j + 1, by go_num, by omega, (by rw [← mid9_next]; exact G31_), k32_, (by first | omega | (simp; omega) | simp), k34_, k35_⟩
          case measure => simp [intOf] <;> omega
    · obtain rfl : j = y11_.length := by omega
      have hfin : takersRow B = fnRow y11_.length (mid9 B y11_.length 0) := by rw [takersRow, if_pos HBO.out, mid9_all, show things B = y11_.length from by unfold things; rw [Hy11_.out]]
      have HFIN := Lib.hid hfin
      clear hfin
      go_wp2
      go_ret
      rw [HFIN.out]
      (refine retInts_grow G23_ (by omega) ?_ k24_; rw [fnRow_length])

set_option maxRecDepth 10000 in
set_option maxHeartbeats 2000000 in
theorem implTakersOf_no (A : Option Addr) (c : Nat) (B : List (List Int)) (w : World) (lo hi : Nat) (h : Grid w lo hi A B) (hh : hi ≤ w.heap.size) (hl : B.length ≤ 1152921504606846976) (hb : bidB B = false) :
    Calls Try.prog 20 #[.slice A B.length c] w (RetInts w (takersRow B)) := by
  have HBO := Lib.hid hb
  clear hb
  go_enter Try.func20, Try.ntmps20
  go_wp2_with fail
  refine (implBidsOk_any A c B _ _ _ h (by first | omega | (simp; omega) | simp) hl).mono ?_
  rintro e w1 ⟨he, hb1_⟩
  rw [HBO.out] at he
  subst he
  have o2_ := h.below hb1_ (by first | omega | (simp; omega) | simp)
  have z3_ := hb1_.size
  have B4_ := (Below.refl w.heap.size w).trans (hb1_.mono (by first | omega | (simp; omega) | simp))
  clear hb1_
  go_wp2
  go_ret
  exact retInts_nil (by rw [takersRow, if_neg (by rw [HBO.out]; simp)]) B4_

theorem implTakersOf_any (A : Option Addr) (c : Nat) (B : List (List Int)) (w : World) (lo hi : Nat) (h : Grid w lo hi A B) (hh : hi ≤ w.heap.size) (hl : B.length ≤ 1152921504606846976) :
    Calls Try.prog 20 #[.slice A B.length c] w (RetInts w (takersRow B)) := by
  by_cases hb : bidB B = true
  · exact implTakersOf_yes A c B w lo hi h hh hl hb
  · exact implTakersOf_no A c B w lo hi h hh hl (by simpa using hb)

set_option maxRecDepth 10000 in
set_option maxHeartbeats 2000000 in
theorem implFairRow_yes (A : Option Addr) (c : Nat) (B : List (List Int)) (w : World) (lo hi : Nat) (h : Grid w lo hi A B) (hh : hi ≤ w.heap.size) (hl : B.length ≤ 1152921504606846976) (hb : bidB B = true) :
    Calls Try.prog 25 #[.slice A B.length c] w (RetInts w (fairRow B)) := by
  have HBO := Lib.hid hb
  have hbd := bidB_bd hb
  obtain ⟨hB2, hB4, hT4⟩ := hbd
  clear hb
  go_enter Try.func25, Try.ntmps25
  go_wp2_with fail
  refine (implBidsOk_any A c B _ _ _ h (by first | omega | (simp; omega) | simp) hl).mono ?_
  rintro e w1 ⟨he, hb1_⟩
  rw [HBO.out] at he
  subst he
  have o2_ := h.below hb1_ (by first | omega | (simp; omega) | simp)
  have z3_ := hb1_.size
  have B4_ := (Below.refl w.heap.size w).trans (hb1_.mono (by first | omega | (simp; omega) | simp))
  clear hb1_
  go_upto_region 4 with (at_make; (refine make_gr (by rfl) _ _ (by rfl) (n := B.length) (x := (B.length : Int)) (by omega) (by rfl) (by rfl) (by omega) ?_; intro w5 G5_ hb6_))
  have o8_ := o2_.below hb6_ (by first | omega | (simp; omega) | simp)
  have z9_ := hb6_.size
  have B10_ := B4_.trans (hb6_.mono (by first | omega | (simp; omega) | simp))
  clear hb6_
  have l11_ := G5_.lt
  have HL12_ : Hid ((List.replicate B.length 0).length = B.length) := List.length_replicate
  go_wp2
  go_loopw [14] (fun i wr => ∃ k : Nat, i = .int .i64 k ∧ (k ≤ B.length) ∧ Grow wr w1.heap.size B.length (fnRow B.length (firstOf (fair B) k)) ∧ Below w.heap.size w wr ∧ w5.heap.size ≤ wr.heap.size ∧ Grid wr (lo) (hi) A B) (fun i _ => B.length - (intOf i).toNat)
  case atStart => exact ⟨0, rfl, Nat.zero_le _, (by rw [firstOf_zero]; exact G5_), B10_, (by first | omega | (simp; omega) | simp), o8_⟩
  case round =>
    obtain ⟨k, rfl, hk, G14_, k15_, k16_, k17_⟩ := hrel
    obtain ⟨w13, rfl⟩ : ∃ x, x = wr := ⟨_, rfl⟩
    have HL18_ : Hid ((fnRow B.length (firstOf (fair B) k)).length = B.length) := (fnRow_length _ _)
    have l19_ := G14_.lt
    by_cases hlt0 : k < B.length
    · obtain ⟨b20_, f21_, rfl, _, b20_h, -⟩ := k17_ (by omega)
      obtain ⟨D22_, d23_, c24_, F25_, rm27_⟩ := k17_.at_ k (by omega)
      obtain ⟨y26_, hy26_⟩ : ∃ y_, B.getD k [] = y_ := ⟨_, rfl⟩
      rw [hy26_] at c24_ F25_ rm27_
      have qy26_ := row_th HBO.out (k := k) (by omega) hy26_
      obtain ⟨qy26_a, qy26_b⟩ := qy26_
      have Hy26_ := Lib.hid hy26_
      clear hy26_
      have c24_ : w13.cell? ⟨b20_, f21_ + k, none⟩ = some (.slice D22_ y26_.length d23_) := c24_
      have c24_i : (k : Int) < (B.length : Int) := by omega
      have c24_j : (0 : Int) ≤ (k : Int) := by omega
      go_wp2_with fail
      refine (sumOf_any D22_ d23_ y26_ _ _ _ F25_ (row_small HBO.out (by omega) Hy26_.out)).mono ?_
      rintro e w' ⟨he, rfl⟩
      obtain ⟨v28_, hv28_⟩ : ∃ v, y26_.sum = v := ⟨_, rfl⟩
      rw [hv28_] at he
      subst he
      have v28_g := row_sum_rg HBO.out (by omega) Hy26_.out
      rw [hv28_] at v28_g
      obtain ⟨v28_g1, v28_g2⟩ := v28_g
      have Hv28_ := Lib.hid hv28_
      clear hv28_
      have hq29_a := Int.ediv_nonneg (show 0 ≤ (48 * v28_) by omega) (show 0 ≤ (B.length : Int) by omega)
      have hq29_b := Int.ediv_le_self (B.length : Int) (show 0 ≤ (48 * v28_) by omega)
      have hq29_ : IntKind.i64.wrap ((48 * v28_).tdiv (B.length : Int)) = (48 * v28_) / (B.length : Int) := by rw [Int.tdiv_eq_ediv_of_nonneg (by omega)]; exact IntWalk.i64_in _ (by omega)
      have hq29_y : ((B.length : Int) == 0) = false := by simp only [beq_eq_false_iff_ne]; omega
      have hq29_z : ((B.length : Int) = 0) = False := eq_false (by omega)
      have c31_ := G14_.at_ k (by rw [fnRow_length]; omega)
      have c31_f := G14_.soft k (by rw [fnRow_length]; omega)
      have c31_i : (k : Int) < (B.length : Int) := by omega
      have c31_j : (0 : Int) ≤ (k : Int) := by omega
      have hC30_ := Chg.setCell (lo := w1.heap.size) (hi := w1.heap.size + 1) w13 (p := ⟨w1.heap.size, k, none⟩) ⟨Nat.le_refl _, Nat.lt_succ_self _⟩ (.int .i64 ((48 * v28_) / (B.length : Int)))
      have G32_ := G14_.store k ((48 * v28_) / (B.length : Int))
      have o33_ := k17_.chg hC30_ (by first | omega | (simp; omega) | simp) (by omega)
      have o34_ := F25_.chg hC30_ (by first | omega | (simp; omega) | simp) (by omega)
      have z35_ := hC30_.size
      try simp at z35_
      have B36_ := k15_.trans (hC30_.below (by omega) (by first | omega | (simp; omega) | simp))
      clear hC30_
      go_wp2
      go_roundw
      case rel => exact ⟨k + 1, by go_num, by omega, (by rw [← firstOf_step (v := 48 * v28_ / (B.length : Int)) (show 48 * v28_ / (B.length : Int) = fair B k from by unfold fair; rw [Hy26_.out, Hv28_.out])]; exact G32_), B36_, (by first | omega | (simp; omega) | simp), o33_⟩
      case measure => simp [intOf] <;> omega
    · obtain rfl : k = B.length := by omega
      have hfin : fairRow B = fnRow B.length (firstOf (fair B) B.length) := by rw [fairRow_yes HBO.out, firstOf_all]
      have HFIN := Lib.hid hfin
      clear hfin
      go_wp2
      go_ret
      rw [HFIN.out]
      (refine retInts_grow G14_ (by omega) ?_ k15_; rw [fnRow_length])

set_option maxRecDepth 10000 in
set_option maxHeartbeats 2000000 in
theorem implFairRow_no (A : Option Addr) (c : Nat) (B : List (List Int)) (w : World) (lo hi : Nat) (h : Grid w lo hi A B) (hh : hi ≤ w.heap.size) (hl : B.length ≤ 1152921504606846976) (hb : bidB B = false) :
    Calls Try.prog 25 #[.slice A B.length c] w (RetInts w (fairRow B)) := by
  have HBO := Lib.hid hb
  clear hb
  go_enter Try.func25, Try.ntmps25
  go_wp2_with fail
  refine (implBidsOk_any A c B _ _ _ h (by first | omega | (simp; omega) | simp) hl).mono ?_
  rintro e w1 ⟨he, hb1_⟩
  rw [HBO.out] at he
  subst he
  have o2_ := h.below hb1_ (by first | omega | (simp; omega) | simp)
  have z3_ := hb1_.size
  have B4_ := (Below.refl w.heap.size w).trans (hb1_.mono (by first | omega | (simp; omega) | simp))
  clear hb1_
  go_wp2
  go_ret
  exact retInts_nil (by rw [fairRow, if_neg (by rw [HBO.out]; simp)]) B4_

theorem implFairRow_any (A : Option Addr) (c : Nat) (B : List (List Int)) (w : World) (lo hi : Nat) (h : Grid w lo hi A B) (hh : hi ≤ w.heap.size) (hl : B.length ≤ 1152921504606846976) :
    Calls Try.prog 25 #[.slice A B.length c] w (RetInts w (fairRow B)) := by
  by_cases hb : bidB B = true
  · exact implFairRow_yes A c B w lo hi h hh hl hb
  · exact implFairRow_no A c B w lo hi h hh hl (by simpa using hb)

set_option maxRecDepth 10000 in
set_option maxHeartbeats 2000000 in
theorem implTaken_yes (A : Option Addr) (c : Nat) (B : List (List Int)) (w : World) (lo hi : Nat) (h : Grid w lo hi A B) (hh : hi ≤ w.heap.size) (hl : B.length ≤ 1152921504606846976) (hb : bidB B = true) :
    Calls Try.prog 51 #[.slice A B.length c] w (RetInts w (fnRow B.length (takes B))) := by
  have HBO := Lib.hid hb
  have hbd := bidB_bd hb
  obtain ⟨hB2, hB4, hT4⟩ := hbd
  clear hb
  go_enter Try.func51, Try.ntmps51
  go_upto_region 2 with (at_make; (refine make_gr (by rfl) _ _ (by rfl) (n := B.length) (x := (B.length : Int)) (by omega) (by rfl) (by rfl) (by omega) ?_; intro w1 G1_ hb2_))
  have o4_ := h.below hb2_ (by first | omega | (simp; omega) | simp)
  have z5_ := hb2_.size
  have B6_ := (Below.refl w.heap.size w).trans (hb2_.mono (by first | omega | (simp; omega) | simp))
  clear hb2_
  have l7_ := G1_.lt
  have HL8_ : Hid ((List.replicate B.length 0).length = B.length) := List.length_replicate
  go_wp2_with fail
  refine (implTakersOf_any A c B _ _ _ o4_ (by first | omega | (simp; omega) | simp) hl).mono ?_
  rintro e w9 ⟨A10_, c11_, rfl, ho12_, hb9_⟩
  have o13_ := o4_.below hb9_ (by first | omega | (simp; omega) | simp)
  have o14_ := G1_.below hb9_ (by first | omega | (simp; omega) | simp)
  have z15_ := hb9_.size
  have B16_ := B6_.trans (hb9_.mono (by first | omega | (simp; omega) | simp))
  clear hb9_
  have HTL := Lib.hid (takersRow_len HBO.out)
  have htl1 : (takersRow B).length ≤ things B := by have e := HTL.out; omega
  have htl2 : things B ≤ (takersRow B).length := by have e := HTL.out; omega
  go_wp2
  go_loopw [12] (fun i wr => ∃ j : Nat, i = .int .i64 j ∧ (j ≤ (takersRow B).length) ∧ Grow wr w.heap.size B.length (fnRow B.length (takesTo B j)) ∧ Below w.heap.size w wr ∧ w9.heap.size ≤ wr.heap.size ∧ Grid wr (lo) (hi) A B ∧ Own wr (w1.heap.size) (w9.heap.size) A10_ (takersRow B)) (fun i _ => (takersRow B).length - (intOf i).toNat)
  case atStart => exact ⟨0, rfl, Nat.zero_le _, (by rw [takes_zero]; exact o14_), B16_, (by first | omega | (simp; omega) | simp), o13_, ho12_⟩
  case round =>
    obtain ⟨j, rfl, hj, G18_, k19_, k20_, k21_, k22_⟩ := hrel
    obtain ⟨w17, rfl⟩ : ∃ x, x = wr := ⟨_, rfl⟩
    have HL23_ : Hid ((fnRow B.length (takesTo B j)).length = B.length) := (fnRow_length _ _)
    have l24_ := G18_.lt
    by_cases hlt0 : j < (takersRow B).length
    · obtain ⟨b25_, f26_, rfl, b25_l, b25_h, -⟩ := k22_.ints (by omega)
      have c27_ : w17.cell? ⟨b25_, f26_ + j, none⟩ = some (.int .i64 ((takersRow B).getD j 0)) := k22_.ints.at2 j (by first | omega | (simp; omega) | simp)
      have c27_i : (j : Int) < ((takersRow B).length : Int) := by omega
      have c27_j : (0 : Int) ≤ (j : Int) := by omega
      have v28_g := takers_rg HBO.out (j := j) (by omega)
      obtain ⟨v28_, hv28_⟩ : ∃ v, v = (takersRow B).getD j 0 := ⟨_, rfl⟩
      rw [← hv28_] at c27_ v28_g
      have Hv28_ := Lib.hid hv28_
      clear hv28_
      obtain ⟨v28_g1, v28_g2⟩ := v28_g
      obtain ⟨x29_, hx29_⟩ : ∃ x : Nat, v28_ = (x : Int) := ⟨(v28_).toNat, by omega⟩
      have Hx29_ := Lib.hid hx29_
      have x29_b : x29_ < B.length := by omega
      have c30_ : w17.cell? ⟨w.heap.size, x29_, none⟩ = some (.int .i64 ((fnRow B.length (takesTo B j)).getD x29_ 0)) := G18_.at_ x29_ (by rw [fnRow_length]; omega)
      have c30_i : (x29_ : Int) < (B.length : Int) := by omega
      have c30_j : (0 : Int) ≤ (x29_ : Int) := by omega
      have v31_g := takesRow_rg HBO.out (m := j) (by omega) x29_
      obtain ⟨v31_, hv31_⟩ : ∃ v, v = (fnRow B.length (takesTo B j)).getD x29_ 0 := ⟨_, rfl⟩
      rw [← hv31_] at c30_ v31_g
      have Hv31_ := Lib.hid hv31_
      clear hv31_
      obtain ⟨v31_g1, v31_g2⟩ := v31_g
      obtain ⟨b32_, f33_, rfl, _, b32_h, -⟩ := k21_ (by omega)
      obtain ⟨D34_, d35_, c36_, F37_, rm39_⟩ := k21_.at_ x29_ (by omega)
      obtain ⟨y38_, hy38_⟩ : ∃ y_, B.getD x29_ [] = y_ := ⟨_, rfl⟩
      rw [hy38_] at c36_ F37_ rm39_
      have qy38_ := row_th HBO.out (k := x29_) (by omega) hy38_
      obtain ⟨qy38_a, qy38_b⟩ := qy38_
      have Hy38_ := Lib.hid hy38_
      clear hy38_
      have c36_ : w17.cell? ⟨b32_, f33_ + x29_, none⟩ = some (.slice D34_ y38_.length d35_) := c36_
      have c36_i : (x29_ : Int) < (B.length : Int) := by omega
      have c36_j : (0 : Int) ≤ (x29_ : Int) := by omega
      obtain ⟨b40_, f41_, rfl, _, b40_h, -⟩ := F37_ (by omega)
      have c42_ : w17.cell? ⟨b40_, f41_ + j, none⟩ = some (.int .i64 (y38_.getD j 0)) := F37_.at2 j (by first | omega | (simp; omega) | simp)
      have c42_i : (j : Int) < (y38_.length : Int) := by omega
      have c42_j : (0 : Int) ≤ (j : Int) := by omega
      have v43_g := (show 0 ≤ y38_.getD j 0 ∧ y38_.getD j 0 ≤ 12 from by rw [← Hy38_.out]; exact bid_rg HBO.out _ _)
      obtain ⟨v43_, hv43_⟩ : ∃ v, v = y38_.getD j 0 := ⟨_, rfl⟩
      rw [← hv43_] at c42_ v43_g
      have Hv43_ := Lib.hid hv43_
      clear hv43_
      obtain ⟨v43_g1, v43_g2⟩ := v43_g
      have hw44_ : IntKind.i64.wrap (48 * v43_) = (48 * v43_) := IntWalk.i64_in _ (by omega)
      have hw45_ : IntKind.i64.wrap (v31_ + (48 * v43_)) = (v31_ + (48 * v43_)) := IntWalk.i64_in _ (by omega)
      have c46_ := G18_.at_ x29_ (by rw [fnRow_length]; omega)
      have c46_f := G18_.soft x29_ (by rw [fnRow_length]; omega)
      clear c46_
      have c46_i : (x29_ : Int) < (B.length : Int) := by omega
      have c46_j : (0 : Int) ≤ (x29_ : Int) := by omega
      have hw49_ : IntKind.i64.wrap (48 * v43_) = (48 * v43_) := IntWalk.i64_in _ (by omega)
      have hw50_ : IntKind.i64.wrap (v31_ + (48 * v43_)) = (v31_ + (48 * v43_)) := IntWalk.i64_in _ (by omega)
      go_wp2_with fail
      go_region
      obtain ⟨w48, hw48⟩ : ∃ x, x = ((w17.setCell ⟨w.heap.size, x29_, none⟩ (.int .i64 (v31_ + (48 * v43_)))).drew) := ⟨_, rfl⟩
      rw [← hw48]
      have hC47_ : Chg w.heap.size (w.heap.size + 1) w17 w48 := by rw [hw48]; exact (Chg.setCell (lo := w.heap.size) (hi := w.heap.size + 1) w17 (p := ⟨w.heap.size, x29_, none⟩) ⟨Nat.le_refl _, Nat.lt_succ_self _⟩ (.int .i64 (v31_ + (48 * v43_)))).drewR
      have G51_ : Grow w48 w.heap.size B.length ((fnRow B.length (takesTo B j)).set x29_ (v31_ + (48 * v43_))) := by rw [hw48]; exact (G18_.store x29_ (v31_ + (48 * v43_))).drew
      clear hw48
      have o52_ := k21_.chg hC47_ (by first | omega | (simp; omega) | simp) (by omega)
      have o53_ := k22_.chg hC47_ (by first | omega | (simp; omega) | simp) (by omega)
      have o54_ := F37_.chg hC47_ (by first | omega | (simp; omega) | simp) (by omega)
      have z55_ := hC47_.size
      have B56_ := k19_.trans (hC47_.below (by omega) (by first | omega | (simp; omega) | simp))
      clear hC47_
      have HL57_ : Hid (((fnRow B.length (takesTo B j)).set x29_ (v31_ + (48 * v43_))).length = B.length) := by show _ = _; rw [List.length_set]; first | rfl | omega | exact HL23_.out
      go_wp2
      go_roundw
      case rel => exact ⟨j + 1, by go_num, by omega, (by rw [takes_set (x := x29_) (o := v31_) (b := v43_) (best_of HBO.out (by omega) (by rw [← Hv28_.out]; exact Hx29_.out)) Hv31_.out (by unfold bid; rw [Hy38_.out]; exact Hv43_.out) (by omega)]; exact G51_), B56_, (by first | omega | (simp; omega) | simp), o52_, o53_⟩
      case measure => simp [intOf] <;> omega
    · have hje : j ≤ things B := by omega
      have hjf : things B ≤ j := by omega
      have hfin : fnRow B.length (takes B) = fnRow B.length (takesTo B j) := by rw [show j = things B from by omega]; rfl
      have HFIN := Lib.hid hfin
      clear hfin
      go_wp2
      go_ret
      rw [HFIN.out]
      (refine retInts_grow G18_ (by omega) ?_ k19_; rw [fnRow_length])

set_option maxRecDepth 10000 in
set_option maxHeartbeats 2000000 in
theorem implSurplusOf_yes (A : Option Addr) (c : Nat) (B : List (List Int)) (w : World) (lo hi : Nat) (h : Grid w lo hi A B) (hh : hi ≤ w.heap.size) (hl : B.length ≤ 1152921504606846976) (hb : bidB B = true) :
    Calls Try.prog 29 #[.slice A B.length c] w fun e w' => e = .returned (.int .i64 (surplusV B)) ∧ Below w.heap.size w w' := by
  have HBO := Lib.hid hb
  have hbd := bidB_bd hb
  obtain ⟨hB2, hB4, hT4⟩ := hbd
  clear hb
  go_enter Try.func29, Try.ntmps29
  go_wp2_with fail
  refine (implBidsOk_any A c B _ _ _ h (by first | omega | (simp; omega) | simp) hl).mono ?_
  rintro e w1 ⟨he, hb1_⟩
  rw [HBO.out] at he
  subst he
  have o2_ := h.below hb1_ (by first | omega | (simp; omega) | simp)
  have z3_ := hb1_.size
  have B4_ := (Below.refl w.heap.size w).trans (hb1_.mono (by first | omega | (simp; omega) | simp))
  clear hb1_
  go_wp2_with fail
  refine (implTaken_yes A c B _ _ _ o2_ (by first | omega | (simp; omega) | simp) hl HBO.out).mono ?_
  rintro e w5 ⟨A6_, c7_, rfl, ho8_, hb5_⟩
  have o9_ := o2_.below hb5_ (by first | omega | (simp; omega) | simp)
  have z10_ := hb5_.size
  have B11_ := B4_.trans (hb5_.mono (by first | omega | (simp; omega) | simp))
  clear hb5_
  go_wp2_with fail
  refine (sumOf_any A6_ c7_ (fnRow B.length (takes B)) _ _ _ ho8_.ints (takes_small HBO.out)).mono ?_
  rintro e w' ⟨he, rfl⟩
  obtain ⟨v12_, hv12_⟩ : ∃ v, (fnRow B.length (takes B)).sum = v := ⟨_, rfl⟩
  rw [hv12_] at he
  subst he
  have v12_g := takes_sum_rg HBO.out
  rw [hv12_] at v12_g
  obtain ⟨v12_g1, v12_g2⟩ := v12_g
  have Hv12_ := Lib.hid hv12_
  clear hv12_
  go_wp2_with fail
  refine (implFairRow_any A c B _ _ _ o9_ (by first | omega | (simp; omega) | simp) hl).mono ?_
  rintro e w13 ⟨A14_, c15_, rfl, ho16_, hb13_⟩
  have o17_ := o9_.below hb13_ (by first | omega | (simp; omega) | simp)
  have o18_ := ho8_.below hb13_ (by first | omega | (simp; omega) | simp)
  have z19_ := hb13_.size
  have B20_ := B11_.trans (hb13_.mono (by first | omega | (simp; omega) | simp))
  clear hb13_
  go_wp2_with fail
  refine (sumOf_any A14_ c15_ (fairRow B) _ _ _ ho16_.ints (fair_small HBO.out)).mono ?_
  rintro e w' ⟨he, rfl⟩
  obtain ⟨v21_, hv21_⟩ : ∃ v, (fairRow B).sum = v := ⟨_, rfl⟩
  rw [hv21_] at he
  subst he
  have v21_g := fair_sum_rg HBO.out
  rw [hv21_] at v21_g
  obtain ⟨v21_g1, v21_g2⟩ := v21_g
  have Hv21_ := Lib.hid hv21_
  clear hv21_
  have hfin : v12_ - v21_ = surplusV B := by rw [surplus_is HBO.out, Hv12_.out, Hv21_.out]
  have HFIN := Lib.hid hfin
  clear hfin
  go_wp2
  go_ret
  exact ⟨ret_int HFIN.out, B20_⟩

set_option maxRecDepth 10000 in
set_option maxHeartbeats 2000000 in
theorem implSurplusOf_no (A : Option Addr) (c : Nat) (B : List (List Int)) (w : World) (lo hi : Nat) (h : Grid w lo hi A B) (hh : hi ≤ w.heap.size) (hl : B.length ≤ 1152921504606846976) (hb : bidB B = false) :
    Calls Try.prog 29 #[.slice A B.length c] w fun e w' => e = .returned (.int .i64 (surplusV B)) ∧ Below w.heap.size w w' := by
  have HBO := Lib.hid hb
  clear hb
  go_enter Try.func29, Try.ntmps29
  go_wp2_with fail
  refine (implBidsOk_any A c B _ _ _ h (by first | omega | (simp; omega) | simp) hl).mono ?_
  rintro e w1 ⟨he, hb1_⟩
  rw [HBO.out] at he
  subst he
  have o2_ := h.below hb1_ (by first | omega | (simp; omega) | simp)
  have z3_ := hb1_.size
  have B4_ := (Below.refl w.heap.size w).trans (hb1_.mono (by first | omega | (simp; omega) | simp))
  clear hb1_
  go_wp2
  go_ret
  exact ⟨ret_int (by rw [surplusV, if_neg (by rw [HBO.out]; simp)]), B4_⟩

theorem implSurplusOf_any (A : Option Addr) (c : Nat) (B : List (List Int)) (w : World) (lo hi : Nat) (h : Grid w lo hi A B) (hh : hi ≤ w.heap.size) (hl : B.length ≤ 1152921504606846976) :
    Calls Try.prog 29 #[.slice A B.length c] w (fun e w' => e = .returned (.int .i64 (surplusV B)) ∧ Below w.heap.size w w') := by
  by_cases hb : bidB B = true
  · exact implSurplusOf_yes A c B w lo hi h hh hl hb
  · exact implSurplusOf_no A c B w lo hi h hh hl (by simpa using hb)

theorem implFair_in {B : List (List Int)} (hb : bidB B = true) (A : Option Addr) (c : Nat) (w : World) (lo hi : Nat) (h : Grid w lo hi A B) (hh : hi ≤ w.heap.size) (hl : B.length ≤ 1152921504606846976) :
    Calls Try.prog 25 #[.slice A B.length c] w (RetInts w (fnRow B.length (fair B))) := by
  have e := implFairRow_any A c B w lo hi h hh hl
  rwa [fairRow_yes hb] at e

set_option maxRecDepth 10000 in
set_option maxHeartbeats 2000000 in
theorem implPaidRow_yes (A : Option Addr) (c : Nat) (B : List (List Int)) (w : World) (lo hi : Nat) (h : Grid w lo hi A B) (hh : hi ≤ w.heap.size) (hl : B.length ≤ 1152921504606846976) (hb : bidB B = true) :
    Calls Try.prog 32 #[.slice A B.length c] w (RetInts w (paidRow B)) := by
  have HBO := Lib.hid hb
  have hbd := bidB_bd hb
  obtain ⟨hB2, hB4, hT4⟩ := hbd
  clear hb
  go_enter Try.func32, Try.ntmps32
  go_wp2_with fail
  refine (implBidsOk_any A c B _ _ _ h (by first | omega | (simp; omega) | simp) hl).mono ?_
  rintro e w1 ⟨he, hb1_⟩
  rw [HBO.out] at he
  subst he
  have o2_ := h.below hb1_ (by first | omega | (simp; omega) | simp)
  have z3_ := hb1_.size
  have B4_ := (Below.refl w.heap.size w).trans (hb1_.mono (by first | omega | (simp; omega) | simp))
  clear hb1_
  go_wp2_with fail
  refine (implSurplusOf_any A c B _ _ _ o2_ (by first | omega | (simp; omega) | simp) hl).mono ?_
  rintro e w5 ⟨he, hb5_⟩
  obtain ⟨v6_, hv6_⟩ : ∃ v, surplusV B = v := ⟨_, rfl⟩
  rw [hv6_] at he
  subst he
  have v6_g := surplusV_rg B
  rw [hv6_] at v6_g
  obtain ⟨v6_g1, v6_g2⟩ := v6_g
  have Hv6_ := Lib.hid hv6_
  clear hv6_
  have o7_ := o2_.below hb5_ (by first | omega | (simp; omega) | simp)
  have z8_ := hb5_.size
  have B9_ := B4_.trans (hb5_.mono (by first | omega | (simp; omega) | simp))
  clear hb5_
  go_wp2_with fail
  refine (implFair_in HBO.out A c _ _ _ o7_ (by first | omega | (simp; omega) | simp) hl).mono ?_
  rintro e w10 ⟨A11_, c12_, rfl, ho13_, hb10_⟩
  have o14_ := o7_.below hb10_ (by first | omega | (simp; omega) | simp)
  have z15_ := hb10_.size
  have B16_ := B9_.trans (hb10_.mono (by first | omega | (simp; omega) | simp))
  clear hb10_
  have hl9rfa : B.length ≤ (fnRow B.length (fair B)).length := by rw [fnRow_length]; exact Nat.le_refl _
  have hl9rfb : (fnRow B.length (fair B)).length ≤ B.length := by rw [fnRow_length]; exact Nat.le_refl _
  go_wp2_with fail
  refine (implTaken_yes A c B _ _ _ o14_ (by first | omega | (simp; omega) | simp) hl HBO.out).mono ?_
  rintro e w17 ⟨A18_, c19_, rfl, ho20_, hb17_⟩
  have o21_ := o14_.below hb17_ (by first | omega | (simp; omega) | simp)
  have o22_ := ho13_.below hb17_ (by first | omega | (simp; omega) | simp)
  have z23_ := hb17_.size
  have B24_ := B16_.trans (hb17_.mono (by first | omega | (simp; omega) | simp))
  clear hb17_
  have hl9rta : B.length ≤ (fnRow B.length (takes B)).length := by rw [fnRow_length]; exact Nat.le_refl _
  have hl9rtb : (fnRow B.length (takes B)).length ≤ B.length := by rw [fnRow_length]; exact Nat.le_refl _
  go_upto_region 6 with (at_make; (refine make_gr (by rfl) _ _ (by rfl) (n := B.length) (x := (B.length : Int)) (by omega) (by rfl) (by rfl) (by omega) ?_; intro w25 G25_ hb26_))
  have o28_ := o21_.below hb26_ (by first | omega | (simp; omega) | simp)
  have o29_ := o22_.below hb26_ (by first | omega | (simp; omega) | simp)
  have o30_ := ho20_.below hb26_ (by first | omega | (simp; omega) | simp)
  have z31_ := hb26_.size
  have B32_ := B24_.trans (hb26_.mono (by first | omega | (simp; omega) | simp))
  clear hb26_
  have l33_ := G25_.lt
  have HL34_ : Hid ((List.replicate B.length 0).length = B.length) := List.length_replicate
  go_wp2
  go_loopw [24] (fun i wr => ∃ k : Nat, i = .int .i64 k ∧ (k ≤ B.length) ∧ Grow wr w17.heap.size B.length (fnRow B.length (firstOf (paid B) k)) ∧ Below w.heap.size w wr ∧ w25.heap.size ≤ wr.heap.size ∧ Grid wr (lo) (hi) A B ∧ Own wr (w5.heap.size) (w10.heap.size) A11_ (fnRow B.length (fair B)) ∧ Own wr (w10.heap.size) (w17.heap.size) A18_ (fnRow B.length (takes B))) (fun i _ => B.length - (intOf i).toNat)
  case atStart => exact ⟨0, rfl, Nat.zero_le _, (by rw [firstOf_zero]; exact G25_), B32_, (by first | omega | (simp; omega) | simp), o28_, o29_, o30_⟩
  case round =>
    obtain ⟨k, rfl, hk, G36_, k37_, k38_, k39_, k40_, k41_⟩ := hrel
    obtain ⟨w35, rfl⟩ : ∃ x, x = wr := ⟨_, rfl⟩
    have HL42_ : Hid ((fnRow B.length (firstOf (paid B) k)).length = B.length) := (fnRow_length _ _)
    have l43_ := G36_.lt
    by_cases hlt0 : k < B.length
    · obtain ⟨b44_, f45_, rfl, b44_l, b44_h, -⟩ := k40_.ints (by rw [fnRow_length]; omega)
      have c46_ : w35.cell? ⟨b44_, f45_ + k, none⟩ = some (.int .i64 ((fnRow B.length (fair B)).getD k 0)) := k40_.ints.at2 k (by rw [fnRow_length]; omega)
      have c46_i : (k : Int) < ((fnRow B.length (fair B)).length : Int) := by omega
      have c46_j : (0 : Int) ≤ (k : Int) := by omega
      have v47_g := fair_rg HBO.out k
      obtain ⟨v47_, hv47_⟩ : ∃ v, v = (fnRow B.length (fair B)).getD k 0 := ⟨_, rfl⟩
      rw [← hv47_] at c46_ v47_g
      have Hv47_ := Lib.hid hv47_
      clear hv47_
      obtain ⟨v47_g1, v47_g2⟩ := v47_g
      obtain ⟨b48_, f49_, rfl, b48_l, b48_h, -⟩ := k41_.ints (by rw [fnRow_length]; omega)
      have c50_ : w35.cell? ⟨b48_, f49_ + k, none⟩ = some (.int .i64 ((fnRow B.length (takes B)).getD k 0)) := k41_.ints.at2 k (by rw [fnRow_length]; omega)
      have c50_i : (k : Int) < ((fnRow B.length (takes B)).length : Int) := by omega
      have c50_j : (0 : Int) ≤ (k : Int) := by omega
      have v51_g := takes_rg HBO.out k
      obtain ⟨v51_, hv51_⟩ : ∃ v, v = (fnRow B.length (takes B)).getD k 0 := ⟨_, rfl⟩
      rw [← hv51_] at c50_ v51_g
      have Hv51_ := Lib.hid hv51_
      clear hv51_
      obtain ⟨v51_g1, v51_g2⟩ := v51_g
      obtain ⟨P52_, hP52_⟩ : ∃ P, (B.length : Int) * (v47_ - v51_) = P := ⟨_, rfl⟩
      have bP52_ := len_mul_rg hB4 (show -20000 ≤ (v47_ - v51_) by omega) (show (v47_ - v51_) ≤ 20000 by omega)
      rw [hP52_] at bP52_
      obtain ⟨bP52_, bP52_'⟩ := bP52_
      have wP52_ : IntKind.i64.wrap P52_ = P52_ := IntWalk.i64_in _ (by omega)
      have hw53_ : IntKind.i64.wrap (v47_ - v51_) = (v47_ - v51_) := IntWalk.i64_in _ (by omega)
      have hw54_ : IntKind.i64.wrap P52_ = P52_ := IntWalk.i64_in _ (by omega)
      have hw55_ : IntKind.i64.wrap (P52_ + v6_) = (P52_ + v6_) := IntWalk.i64_in _ (by omega)
      have c56_ := G36_.at_ k (by rw [fnRow_length]; omega)
      have c56_f := G36_.soft k (by rw [fnRow_length]; omega)
      have c56_i : (k : Int) < (B.length : Int) := by omega
      have c56_j : (0 : Int) ≤ (k : Int) := by omega
      have hw59_ : IntKind.i64.wrap (v47_ - v51_) = (v47_ - v51_) := IntWalk.i64_in _ (by omega)
      have hw60_ : IntKind.i64.wrap P52_ = P52_ := IntWalk.i64_in _ (by omega)
      have hw61_ : IntKind.i64.wrap (P52_ + v6_) = (P52_ + v6_) := IntWalk.i64_in _ (by omega)
      go_wp2_with fail
      go_region
      obtain ⟨w58, hw58⟩ : ∃ x, x = ((w35.setCell ⟨w17.heap.size, k, none⟩ (.int .i64 (P52_ + v6_))).drew) := ⟨_, rfl⟩
      rw [← hw58]
      have hC57_ : Chg w17.heap.size (w17.heap.size + 1) w35 w58 := by rw [hw58]; exact (Chg.setCell (lo := w17.heap.size) (hi := w17.heap.size + 1) w35 (p := ⟨w17.heap.size, k, none⟩) ⟨Nat.le_refl _, Nat.lt_succ_self _⟩ (.int .i64 (P52_ + v6_))).drewR
      have G62_ : Grow w58 w17.heap.size B.length ((fnRow B.length (firstOf (paid B) k)).set k (P52_ + v6_)) := by rw [hw58]; exact (G36_.store k (P52_ + v6_)).drew
      clear hw58
      have o63_ := k39_.chg hC57_ (by first | omega | (simp; omega) | simp) (by omega)
      have o64_ := k40_.chg hC57_ (by first | omega | (simp; omega) | simp) (by omega)
      have o65_ := k41_.chg hC57_ (by first | omega | (simp; omega) | simp) (by omega)
      have z66_ := hC57_.size
      have B67_ := k37_.trans (hC57_.below (by omega) (by first | omega | (simp; omega) | simp))
      clear hC57_
      have HL68_ : Hid (((fnRow B.length (firstOf (paid B) k)).set k (P52_ + v6_)).length = B.length) := by show _ = _; rw [List.length_set]; first | rfl | omega | exact HL42_.out
      go_wp2
      go_roundw
      case rel => exact ⟨k + 1, by go_num, by omega, (by rw [← firstOf_step (v := P52_ + v6_) (show P52_ + v6_ = paid B k from by unfold paid; rw [← hP52_, ← Hv6_.out, Hv47_.out, Hv51_.out, fnRow_getD _ (by omega), fnRow_getD _ (by omega), surplusV, if_pos HBO.out])]; exact G62_), B67_, (by first | omega | (simp; omega) | simp), o63_, o64_, o65_⟩
      case measure => simp [intOf] <;> omega
    · obtain rfl : k = B.length := by omega
      have hfin : paidRow B = fnRow B.length (firstOf (paid B) B.length) := by rw [firstOf_all]; exact if_pos HBO.out
      have HFIN := Lib.hid hfin
      clear hfin
      go_wp2
      go_ret
      rw [HFIN.out]
      (refine retInts_grow G36_ (by omega) ?_ k37_; rw [fnRow_length])

set_option maxRecDepth 10000 in
set_option maxHeartbeats 2000000 in
theorem implPaidRow_no (A : Option Addr) (c : Nat) (B : List (List Int)) (w : World) (lo hi : Nat) (h : Grid w lo hi A B) (hh : hi ≤ w.heap.size) (hl : B.length ≤ 1152921504606846976) (hb : bidB B = false) :
    Calls Try.prog 32 #[.slice A B.length c] w (RetInts w (paidRow B)) := by
  have HBO := Lib.hid hb
  clear hb
  go_enter Try.func32, Try.ntmps32
  go_wp2_with fail
  refine (implBidsOk_any A c B _ _ _ h (by first | omega | (simp; omega) | simp) hl).mono ?_
  rintro e w1 ⟨he, hb1_⟩
  rw [HBO.out] at he
  subst he
  have o2_ := h.below hb1_ (by first | omega | (simp; omega) | simp)
  have z3_ := hb1_.size
  have B4_ := (Below.refl w.heap.size w).trans (hb1_.mono (by first | omega | (simp; omega) | simp))
  clear hb1_
  go_wp2
  go_ret
  exact retInts_nil (by rw [paidRow, if_neg (by rw [HBO.out]; simp)]) B4_

theorem implPaidRow_any (A : Option Addr) (c : Nat) (B : List (List Int)) (w : World) (lo hi : Nat) (h : Grid w lo hi A B) (hh : hi ≤ w.heap.size) (hl : B.length ≤ 1152921504606846976) :
    Calls Try.prog 32 #[.slice A B.length c] w (RetInts w (paidRow B)) := by
  by_cases hb : bidB B = true
  · exact implPaidRow_yes A c B w lo hi h hh hl hb
  · exact implPaidRow_no A c B w lo hi h hh hl (by simpa using hb)

theorem implPaid_in {B : List (List Int)} (hb : bidB B = true) (A : Option Addr) (c : Nat) (w : World) (lo hi : Nat) (h : Grid w lo hi A B) (hh : hi ≤ w.heap.size) (hl : B.length ≤ 1152921504606846976) :
    Calls Try.prog 32 #[.slice A B.length c] w (RetInts w (fnRow B.length (paid B))) := by
  have e := implPaidRow_any A c B w lo hi h hh hl
  rwa [paidRow, if_pos hb] at e

set_option maxRecDepth 10000 in
set_option maxHeartbeats 2000000 in
theorem implEndRow_yes (A : Option Addr) (c : Nat) (B : List (List Int)) (w : World) (lo hi : Nat) (h : Grid w lo hi A B) (hh : hi ≤ w.heap.size) (hl : B.length ≤ 1152921504606846976) (hb : bidB B = true) :
    Calls Try.prog 35 #[.slice A B.length c] w (RetInts w (endRow B)) := by
  have HBO := Lib.hid hb
  have hbd := bidB_bd hb
  obtain ⟨hB2, hB4, hT4⟩ := hbd
  clear hb
  go_enter Try.func35, Try.ntmps35
  go_wp2_with fail
  refine (implBidsOk_any A c B _ _ _ h (by first | omega | (simp; omega) | simp) hl).mono ?_
  rintro e w1 ⟨he, hb1_⟩
  rw [HBO.out] at he
  subst he
  have o2_ := h.below hb1_ (by first | omega | (simp; omega) | simp)
  have z3_ := hb1_.size
  have B4_ := (Below.refl w.heap.size w).trans (hb1_.mono (by first | omega | (simp; omega) | simp))
  clear hb1_
  go_wp2_with fail
  refine (implPaid_in HBO.out A c _ _ _ o2_ (by first | omega | (simp; omega) | simp) hl).mono ?_
  rintro e w5 ⟨A6_, c7_, rfl, ho8_, hb5_⟩
  have o9_ := o2_.below hb5_ (by first | omega | (simp; omega) | simp)
  have z10_ := hb5_.size
  have B11_ := B4_.trans (hb5_.mono (by first | omega | (simp; omega) | simp))
  clear hb5_
  have hl9rpa : B.length ≤ (fnRow B.length (paid B)).length := by rw [fnRow_length]; exact Nat.le_refl _
  have hl9rpb : (fnRow B.length (paid B)).length ≤ B.length := by rw [fnRow_length]; exact Nat.le_refl _
  go_wp2_with fail
  refine (implTaken_yes A c B _ _ _ o9_ (by first | omega | (simp; omega) | simp) hl HBO.out).mono ?_
  rintro e w12 ⟨A13_, c14_, rfl, ho15_, hb12_⟩
  have o16_ := o9_.below hb12_ (by first | omega | (simp; omega) | simp)
  have o17_ := ho8_.below hb12_ (by first | omega | (simp; omega) | simp)
  have z18_ := hb12_.size
  have B19_ := B11_.trans (hb12_.mono (by first | omega | (simp; omega) | simp))
  clear hb12_
  have hl9rta : B.length ≤ (fnRow B.length (takes B)).length := by rw [fnRow_length]; exact Nat.le_refl _
  have hl9rtb : (fnRow B.length (takes B)).length ≤ B.length := by rw [fnRow_length]; exact Nat.le_refl _
  go_upto_region 5 with (at_make; (refine make_gr (by rfl) _ _ (by rfl) (n := B.length) (x := (B.length : Int)) (by omega) (by rfl) (by rfl) (by omega) ?_; intro w20 G20_ hb21_))
  have o23_ := o16_.below hb21_ (by first | omega | (simp; omega) | simp)
  have o24_ := o17_.below hb21_ (by first | omega | (simp; omega) | simp)
  have o25_ := ho15_.below hb21_ (by first | omega | (simp; omega) | simp)
  have z26_ := hb21_.size
  have B27_ := B19_.trans (hb21_.mono (by first | omega | (simp; omega) | simp))
  clear hb21_
  have l28_ := G20_.lt
  have HL29_ : Hid ((List.replicate B.length 0).length = B.length) := List.length_replicate
  go_wp2
  go_loopw [19] (fun i wr => ∃ k : Nat, i = .int .i64 k ∧ (k ≤ B.length) ∧ Grow wr w12.heap.size B.length (fnRow B.length (firstOf (endAt B) k)) ∧ Below w.heap.size w wr ∧ w20.heap.size ≤ wr.heap.size ∧ Grid wr (lo) (hi) A B ∧ Own wr (w1.heap.size) (w5.heap.size) A6_ (fnRow B.length (paid B)) ∧ Own wr (w5.heap.size) (w12.heap.size) A13_ (fnRow B.length (takes B))) (fun i _ => B.length - (intOf i).toNat)
  case atStart => exact ⟨0, rfl, Nat.zero_le _, (by rw [firstOf_zero]; exact G20_), B27_, (by first | omega | (simp; omega) | simp), o23_, o24_, o25_⟩
  case round =>
    obtain ⟨k, rfl, hk, G31_, k32_, k33_, k34_, k35_, k36_⟩ := hrel
    obtain ⟨w30, rfl⟩ : ∃ x, x = wr := ⟨_, rfl⟩
    have HL37_ : Hid ((fnRow B.length (firstOf (endAt B) k)).length = B.length) := (fnRow_length _ _)
    have l38_ := G31_.lt
    by_cases hlt0 : k < B.length
    · obtain ⟨b39_, f40_, rfl, b39_l, b39_h, -⟩ := k36_.ints (by rw [fnRow_length]; omega)
      have c41_ : w30.cell? ⟨b39_, f40_ + k, none⟩ = some (.int .i64 ((fnRow B.length (takes B)).getD k 0)) := k36_.ints.at2 k (by rw [fnRow_length]; omega)
      have c41_i : (k : Int) < ((fnRow B.length (takes B)).length : Int) := by omega
      have c41_j : (0 : Int) ≤ (k : Int) := by omega
      have v42_g := takes_rg HBO.out k
      obtain ⟨v42_, hv42_⟩ : ∃ v, v = (fnRow B.length (takes B)).getD k 0 := ⟨_, rfl⟩
      rw [← hv42_] at c41_ v42_g
      have Hv42_ := Lib.hid hv42_
      clear hv42_
      obtain ⟨v42_g1, v42_g2⟩ := v42_g
      obtain ⟨P43_, hP43_⟩ : ∃ P, (B.length : Int) * v42_ = P := ⟨_, rfl⟩
      have bP43_ := len_mul_rg hB4 (show -20000 ≤ v42_ by omega) (show v42_ ≤ 20000 by omega)
      rw [hP43_] at bP43_
      obtain ⟨bP43_, bP43_'⟩ := bP43_
      have wP43_ : IntKind.i64.wrap P43_ = P43_ := IntWalk.i64_in _ (by omega)
      obtain ⟨b44_, f45_, rfl, b44_l, b44_h, -⟩ := k35_.ints (by rw [fnRow_length]; omega)
      have c46_ : w30.cell? ⟨b44_, f45_ + k, none⟩ = some (.int .i64 ((fnRow B.length (paid B)).getD k 0)) := k35_.ints.at2 k (by rw [fnRow_length]; omega)
      have c46_i : (k : Int) < ((fnRow B.length (paid B)).length : Int) := by omega
      have c46_j : (0 : Int) ≤ (k : Int) := by omega
      have v47_g := paid_rg HBO.out k
      obtain ⟨v47_, hv47_⟩ : ∃ v, v = (fnRow B.length (paid B)).getD k 0 := ⟨_, rfl⟩
      rw [← hv47_] at c46_ v47_g
      have Hv47_ := Lib.hid hv47_
      clear hv47_
      obtain ⟨v47_g1, v47_g2⟩ := v47_g
      have hw48_ : IntKind.i64.wrap P43_ = P43_ := IntWalk.i64_in _ (by omega)
      have hw49_ : IntKind.i64.wrap (P43_ + v47_) = (P43_ + v47_) := IntWalk.i64_in _ (by omega)
      have c50_ := G31_.at_ k (by rw [fnRow_length]; omega)
      have c50_f := G31_.soft k (by rw [fnRow_length]; omega)
      have c50_i : (k : Int) < (B.length : Int) := by omega
      have c50_j : (0 : Int) ≤ (k : Int) := by omega
      have hw53_ : IntKind.i64.wrap P43_ = P43_ := IntWalk.i64_in _ (by omega)
      have hw54_ : IntKind.i64.wrap (P43_ + v47_) = (P43_ + v47_) := IntWalk.i64_in _ (by omega)
      go_wp2_with fail
      go_region
      obtain ⟨w52, hw52⟩ : ∃ x, x = ((w30.setCell ⟨w12.heap.size, k, none⟩ (.int .i64 (P43_ + v47_))).drew) := ⟨_, rfl⟩
      rw [← hw52]
      have hC51_ : Chg w12.heap.size (w12.heap.size + 1) w30 w52 := by rw [hw52]; exact (Chg.setCell (lo := w12.heap.size) (hi := w12.heap.size + 1) w30 (p := ⟨w12.heap.size, k, none⟩) ⟨Nat.le_refl _, Nat.lt_succ_self _⟩ (.int .i64 (P43_ + v47_))).drewR
      have G55_ : Grow w52 w12.heap.size B.length ((fnRow B.length (firstOf (endAt B) k)).set k (P43_ + v47_)) := by rw [hw52]; exact (G31_.store k (P43_ + v47_)).drew
      clear hw52
      have o56_ := k34_.chg hC51_ (by first | omega | (simp; omega) | simp) (by omega)
      have o57_ := k35_.chg hC51_ (by first | omega | (simp; omega) | simp) (by omega)
      have o58_ := k36_.chg hC51_ (by first | omega | (simp; omega) | simp) (by omega)
      have z59_ := hC51_.size
      have B60_ := k32_.trans (hC51_.below (by omega) (by first | omega | (simp; omega) | simp))
      clear hC51_
      have HL61_ : Hid (((fnRow B.length (firstOf (endAt B) k)).set k (P43_ + v47_)).length = B.length) := by show _ = _; rw [List.length_set]; first | rfl | omega | exact HL37_.out
      go_wp2
      go_roundw
      case rel => exact ⟨k + 1, by go_num, by omega, (by rw [← firstOf_step (v := P43_ + v47_) (show P43_ + v47_ = endAt B k from by unfold endAt; rw [← hP43_, Hv47_.out, Hv42_.out, fnRow_getD _ (by omega), fnRow_getD _ (by omega)])]; exact G55_), B60_, (by first | omega | (simp; omega) | simp), o56_, o57_, o58_⟩
      case measure => simp [intOf] <;> omega
    · obtain rfl : k = B.length := by omega
      have hfin : endRow B = fnRow B.length (firstOf (endAt B) B.length) := by rw [firstOf_all]; exact if_pos HBO.out
      have HFIN := Lib.hid hfin
      clear hfin
      go_wp2
      go_ret
      rw [HFIN.out]
      (refine retInts_grow G31_ (by omega) ?_ k32_; rw [fnRow_length])

set_option maxRecDepth 10000 in
set_option maxHeartbeats 2000000 in
theorem implEndRow_no (A : Option Addr) (c : Nat) (B : List (List Int)) (w : World) (lo hi : Nat) (h : Grid w lo hi A B) (hh : hi ≤ w.heap.size) (hl : B.length ≤ 1152921504606846976) (hb : bidB B = false) :
    Calls Try.prog 35 #[.slice A B.length c] w (RetInts w (endRow B)) := by
  have HBO := Lib.hid hb
  clear hb
  go_enter Try.func35, Try.ntmps35
  go_wp2_with fail
  refine (implBidsOk_any A c B _ _ _ h (by first | omega | (simp; omega) | simp) hl).mono ?_
  rintro e w1 ⟨he, hb1_⟩
  rw [HBO.out] at he
  subst he
  have o2_ := h.below hb1_ (by first | omega | (simp; omega) | simp)
  have z3_ := hb1_.size
  have B4_ := (Below.refl w.heap.size w).trans (hb1_.mono (by first | omega | (simp; omega) | simp))
  clear hb1_
  go_wp2
  go_ret
  exact retInts_nil (by rw [endRow, if_neg (by rw [HBO.out]; simp)]) B4_

theorem implEndRow_any (A : Option Addr) (c : Nat) (B : List (List Int)) (w : World) (lo hi : Nat) (h : Grid w lo hi A B) (hh : hi ≤ w.heap.size) (hl : B.length ≤ 1152921504606846976) :
    Calls Try.prog 35 #[.slice A B.length c] w (RetInts w (endRow B)) := by
  by_cases hb : bidB B = true
  · exact implEndRow_yes A c B w lo hi h hh hl hb
  · exact implEndRow_no A c B w lo hi h hh hl (by simpa using hb)


end Go.Proofs.Ytpdlppmkjkbboaa
