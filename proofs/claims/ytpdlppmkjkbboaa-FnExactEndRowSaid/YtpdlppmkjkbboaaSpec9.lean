/-
  Chapter 9, the given package's functions : BidsOk. No condition but lengths that fit.
-/
import Derived.Test.YtpdlppmkjkbboaaGridA
import Derived.Test.YtpdlppmkjkbboaaBid
import Derived.Test.YtpdlppmkjkbboaaGame
import Derived.Test.YtpdlppmkjkbboaaSpec7C
import Derived.Test.YtpdlppmkjkbboaaArr7
import Derived.BigQuiet
import Derived.Deep.Cut
namespace Go.Proofs.Ytpdlppmkjkbboaa
open Go.RowKit

/-- The first k people bid as they must; and of a person the first j bids. -/
def PeopleTo (B : List (List Int)) (k : Nat) : Prop := ∀ i, i < k → (B.getD i []).length = things B ∧ things B ≤ 4 ∧ ∀ j, j < things B → 0 ≤ bid B i j ∧ bid B i j ≤ 12
def BidsTo (B : List (List Int)) (k m : Nat) : Prop := ∀ j, j < m → 0 ≤ bid B k j ∧ bid B k j ≤ 12
theorem PeopleTo.zero (B : List (List Int)) : PeopleTo B 0 := fun _ h => absurd h (by omega)
theorem BidsTo.zero (B : List (List Int)) (k : Nat) : BidsTo B k 0 := fun _ h => absurd h (by omega)
theorem BidsTo.more {B : List (List Int)} {k m : Nat} (h : BidsTo B k m) (e : 0 ≤ bid B k m ∧ bid B k m ≤ 12) : BidsTo B k (m + 1) := fun j hj => by
  rcases Nat.lt_or_ge j m with q | q
  · exact h j q
  · obtain rfl : j = m := by omega
    exact e
theorem PeopleTo.more {B : List (List Int)} {k : Nat} (h : PeopleTo B k) (hl : (B.getD k []).length = things B) (ht : things B ≤ 4) (hb : BidsTo B k (things B)) : PeopleTo B (k + 1) := fun i hi => by
  rcases Nat.lt_or_ge i k with q | q
  · exact h i q
  · obtain rfl : i = k := by omega
    exact ⟨hl, ht, hb⟩
theorem people_ok {B : List (List Int)} (h : PeopleTo B B.length) (h2 : 2 ≤ B.length) (h4 : B.length ≤ 4) : bidB B = true :=
  (bidB_iff B).2 ⟨h2, h4, (h 0 (by omega)).2.1, fun k hk => ⟨(h k hk).1, (h k hk).2.2⟩⟩
theorem bids_no {B : List (List Int)} (h : ¬ BidOk B) : bidB B = false := by
  cases e : bidB B with
  | false => rfl
  | true => exact absurd ((bidB_iff B).1 e) h

set_option maxRecDepth 10000 in
set_option maxHeartbeats 1000000 in
theorem specBidsOk_any (A : Option Addr) (c : Nat) (B : List (List Int)) (w : World) (lo hi : Nat) (h : Grid w lo hi A B) (hh : hi ≤ w.heap.size) (hl : B.length ≤ 1152921504606846976) :
    Calls Try.prog 18 #[.slice A B.length c] w fun e w' => e = .returned (.bool (bidB B)) ∧ Below w.heap.size w w' := by
  go_enter Try.func18, Try.ntmps18
  go_wp2
  go_loopw [3] (fun i wr => ∃ k : Nat, i = .int .i64 k ∧ (k ≤ B.length) ∧ (PeopleTo B k) ∧ Below w.heap.size w wr ∧ w.heap.size ≤ wr.heap.size ∧ Grid wr (lo) (hi) A B) (fun i _ => B.length - (intOf i).toNat)
  case atStart => exact ⟨0, rfl, Nat.zero_le _, PeopleTo.zero B, (Below.refl w.heap.size w), (by first | omega | (simp; omega) | simp), h⟩
  case round =>
    obtain ⟨k, rfl, hk, hpt, k2_, k3_, k4_⟩ := hrel
    obtain ⟨w1, rfl⟩ : ∃ x, x = wr := ⟨_, rfl⟩
    have HPT := Lib.hid hpt
    clear hpt
    by_cases hlt0 : k < B.length
    · obtain ⟨b5_, f6_, rfl, _, b5_h, -⟩ := k4_ (by omega)
      obtain ⟨D7_, d8_, c9_, F10_, rm12_⟩ := k4_.at_ k (by omega)
      obtain ⟨y11_, hy11_⟩ : ∃ y_, B.getD k [] = y_ := ⟨_, rfl⟩
      rw [hy11_] at c9_ F10_ rm12_
      have Hy11_ := Lib.hid hy11_
      clear hy11_
      have c9_ : w1.cell? ⟨b5_, f6_ + k, none⟩ = some (.slice D7_ y11_.length d8_) := c9_
      have c9_i : (k : Int) < (B.length : Int) := by omega
      have c9_j : (0 : Int) ≤ (k : Int) := by omega
      obtain ⟨D13_, d14_, c15_, F16_, rm18_⟩ := k4_.at_ 0 (by omega)
      obtain ⟨y17_, hy17_⟩ : ∃ y_, B.getD 0 [] = y_ := ⟨_, rfl⟩
      rw [hy17_] at c15_ F16_ rm18_
      have Hy17_ := Lib.hid hy17_
      clear hy17_
      have c15_ : w1.cell? ⟨b5_, f6_, none⟩ = some (.slice D13_ y17_.length d14_) := c15_
      have c15_i : 0 < (B.length : Int) := by omega
      have c15_j : (0 : Int) ≤ 0 := by omega
      have c15_n : 0 < B.length := by omega
      by_cases h19_ : (y11_.length : Int) = (y17_.length : Int)
      · have h19_b : ((y11_.length : Int) == (y17_.length : Int)) = true := by simpa using h19_
        have h19_n : ((y11_.length : Int) != (y17_.length : Int)) = false := by simpa using h19_
        have h19_le : (y11_.length : Int) ≤ (y17_.length : Int) := by omega
        have h19_ge : (y17_.length : Int) ≤ (y11_.length : Int) := by omega
        have Hh19_ := Lib.hid h19_
        clear h19_
        go_wp2
        go_quiet (fail)
        obtain ⟨w20, hw20⟩ : ∃ x, x = w1.drewN nq := ⟨_, rfl⟩
        have hb21_ : Below w1.heap.size w1 w20 := by rw [hw20]; exact below_drewN (Below.refl _ _) _
        rw [← hw20]
        clear hw20
        have o23_ := k4_.below hb21_ (by first | omega | (simp; omega) | simp)
        have o24_ := F10_.below hb21_ (by first | omega | (simp; omega) | simp)
        have o25_ := F16_.below hb21_ (by first | omega | (simp; omega) | simp)
        have z26_ := hb21_.size
        have B27_ := k2_.trans (hb21_.mono (by first | omega | (simp; omega) | simp))
        clear hb21_
        by_cases h28_ : (y11_.length : Int) > 4
        · have h28_d : decide ((y11_.length : Int) > 4) = true := decide_eq_true h28_
          go_wp2
          go_ret
          exact ⟨ret_bool (by symm; exact bids_no (fun q => by have q2 := (q.2.2.2 k (by omega)).1; have q3 := q.2.2.1; rw [Hy11_.out] at q2; unfold things at q2 q3; rw [Hy17_.out] at q2 q3; omega)), B27_⟩
        · have h28_d : decide ((y11_.length : Int) > 4) = false := decide_eq_false h28_
          go_wp2
          go_loopw [4] (fun i wr => ∃ j : Nat, i = .int .i64 j ∧ (j ≤ y11_.length) ∧ (BidsTo B k j) ∧ Below w.heap.size w wr ∧ w20.heap.size ≤ wr.heap.size ∧ Grid wr (lo) (hi) (some ⟨b5_, f6_, none⟩) B ∧ Ints wr (lo) (hi) D7_ y11_ ∧ Ints wr (lo) (hi) D13_ y17_) (fun i _ => y11_.length - (intOf i).toNat)
          case atStart => exact ⟨0, rfl, Nat.zero_le _, BidsTo.zero B k, B27_, (by first | omega | (simp; omega) | simp), o23_, o24_, o25_⟩
          case round =>
            obtain ⟨j, rfl, hj, hbt, k30_, k31_, k32_, k33_, k34_⟩ := hrel
            obtain ⟨w29, rfl⟩ : ∃ x, x = wr := ⟨_, rfl⟩
            have HBT := Lib.hid hbt
            clear hbt
            by_cases hlt2 : j < y11_.length
            · obtain ⟨D35_, d36_, c37_, F38_, rm40_⟩ := k32_.at_ k (by omega)
              rw [Hy11_.out] at c37_ F38_ rm40_
              have c37_ : w29.cell? ⟨b5_, f6_ + k, none⟩ = some (.slice D35_ y11_.length d36_) := c37_
              have c37_i : (k : Int) < (B.length : Int) := by omega
              have c37_j : (0 : Int) ≤ (k : Int) := by omega
              obtain ⟨b41_, f42_, rfl, _, b41_h, -⟩ := F38_ (by omega)
              have c43_ : w29.cell? ⟨b41_, f42_ + j, none⟩ = some (.int .i64 (y11_.getD j 0)) := F38_.at2 j (by first | omega | (simp; omega) | simp)
              have c43_i : (j : Int) < (y11_.length : Int) := by omega
              have c43_j : (0 : Int) ≤ (j : Int) := by omega
              obtain ⟨v44_, hv44_⟩ : ∃ v, v = y11_.getD j 0 := ⟨_, rfl⟩
              rw [← hv44_] at c43_
              have Hv44_ := Lib.hid hv44_
              clear hv44_
              by_cases h45_ : 0 ≤ v44_ ∧ v44_ ≤ 12
              · have H45_ := Lib.hid h45_
                clear h45_
                go_wp2_with fail
                refine (l1In_yes _ _ _ _ H45_.out).mono ?_
                rintro e w' ⟨rfl, rfl⟩
                go_wp2
                go_roundw
                case rel => exact ⟨j + 1, by go_num, by omega, HBT.out.more (by unfold bid; rw [Hy11_.out, ← Hv44_.out]; exact H45_.out), k30_, (by first | omega | (simp; omega) | simp), k32_, k33_, k34_⟩
                case measure => simp [intOf] <;> omega
              · have H45_ := Lib.hid h45_
                clear h45_
                go_wp2_with fail
                refine (l1In_no _ _ _ _ H45_.out).mono ?_
                rintro e w' ⟨rfl, rfl⟩
                go_wp2
                go_ret
                exact ⟨ret_bool (by symm; exact bids_no (fun q => by have q2 := q.2.2.2 k (by omega); rw [Hy11_.out] at q2; have q3 := q2.2 j (by omega); unfold bid at q3; rw [Hy11_.out, ← Hv44_.out] at q3; exact H45_.out q3)), k30_⟩
            · obtain rfl : j = y11_.length := by omega
              obtain ⟨D35_, d36_, c37_, F38_, rm40_⟩ := k32_.at_ k (by omega)
              rw [Hy11_.out] at c37_ F38_ rm40_
              have c37_ : w29.cell? ⟨b5_, f6_ + k, none⟩ = some (.slice D35_ y11_.length d36_) := c37_
              have c37_i : (k : Int) < (B.length : Int) := by omega
              have c37_j : (0 : Int) ≤ (k : Int) := by omega
              go_wp2
              go_roundw
              case rel => exact ⟨k + 1, by go_num, by omega, HPT.out.more (by rw [Hy11_.out]; unfold things; rw [Hy17_.out]; omega) (by unfold things; rw [Hy17_.out]; omega) (by have e := HBT.out; rwa [show things B = y11_.length from by unfold things; rw [Hy17_.out]; omega]), k30_, (by first | omega | (simp; omega) | simp), k32_⟩
              case measure => simp [intOf] <;> omega
      · have h19_b : ((y11_.length : Int) == (y17_.length : Int)) = false := by simpa using h19_
        have h19_n : ((y11_.length : Int) != (y17_.length : Int)) = true := by simpa using h19_
        go_wp2
        go_quiet (fail)
        obtain ⟨w20, hw20⟩ : ∃ x, x = w1.drewN nq := ⟨_, rfl⟩
        have hb21_ : Below w1.heap.size w1 w20 := by rw [hw20]; exact below_drewN (Below.refl _ _) _
        rw [← hw20]
        clear hw20
        have o23_ := k4_.below hb21_ (by first | omega | (simp; omega) | simp)
        have o24_ := F10_.below hb21_ (by first | omega | (simp; omega) | simp)
        have o25_ := F16_.below hb21_ (by first | omega | (simp; omega) | simp)
        have z26_ := hb21_.size
        have B27_ := k2_.trans (hb21_.mono (by first | omega | (simp; omega) | simp))
        clear hb21_
        go_wp2
        go_ret
        exact ⟨ret_bool (by symm; exact bids_no (fun q => by have q2 := (q.2.2.2 k (by omega)).1; have q3 := q.2.2.1; rw [Hy11_.out] at q2; unfold things at q2 q3; rw [Hy17_.out] at q2 q3; omega)), B27_⟩
    · obtain rfl : k = B.length := by omega
      by_cases h5_ : 2 ≤ (B.length : Int) ∧ (B.length : Int) ≤ 4
      · have H5_ := Lib.hid h5_
        clear h5_
        go_wp2_with fail
        refine (l1In_yes _ _ _ _ H5_.out).mono ?_
        rintro e w' ⟨rfl, rfl⟩
        go_wp2
        go_ret
        exact ⟨ret_bool (by symm; exact people_ok HPT.out (by have e := H5_.out; omega) (by have e := H5_.out; omega)), k2_⟩
      · have H5_ := Lib.hid h5_
        clear h5_
        go_wp2_with fail
        refine (l1In_no _ _ _ _ H5_.out).mono ?_
        rintro e w' ⟨rfl, rfl⟩
        go_wp2
        go_ret
        exact ⟨ret_bool (by symm; exact bids_no (fun q => H5_.out (by have e := q.1; have e2 := q.2.1; omega))), k2_⟩

/-! What the functions return. -/
noncomputable def takersRow (B : List (List Int)) : List Int := if bidB B = true then fnRow (things B) (fun j => (best B j : Int)) else []
noncomputable def fairRow (B : List (List Int)) : List Int := if bidB B = true then fnRow B.length (fair B) else []
noncomputable def surplusV (B : List (List Int)) : Int := if bidB B = true then surplus B else -1
noncomputable def paidRow (B : List (List Int)) : List Int := if bidB B = true then fnRow B.length (paid B) else []
noncomputable def endRow (B : List (List Int)) : List Int := if bidB B = true then fnRow B.length (endAt B) else []
theorem bidB_bd {B : List (List Int)} (h : bidB B = true) : 2 ≤ B.length ∧ B.length ≤ 4 ∧ things B ≤ 4 := ⟨((bidB_iff B).1 h).1, ((bidB_iff B).1 h).2.1, ((bidB_iff B).1 h).2.2.1⟩
theorem bid_rg {B : List (List Int)} (h : bidB B = true) (k j : Nat) : 0 ≤ (B.getD k []).getD j 0 ∧ (B.getD k []).getD j 0 ≤ 12 := by
  have e := (bidB_iff B).1 h
  by_cases hk : k < B.length
  · by_cases hj : j < things B
    · exact (e.2.2.2 k hk).2 j hj
    · rw [getD_far _ (by rw [(e.2.2.2 k hk).1]; omega)]; omega
  · have q : B.getD k [] = [] := by simp [List.getD, List.getElem?_eq_none (Nat.le_of_not_lt hk)]
    rw [q]; simp
theorem row_th {B : List (List Int)} (h : bidB B = true) {k : Nat} (hk : k < B.length) {y : List Int} (hy : B.getD k [] = y) : y.length ≤ things B ∧ things B ≤ y.length := by
  have e := (((bidB_iff B).1 h).2.2.2 k hk).1
  rw [hy] at e; omega
theorem row_small {B : List (List Int)} (h : bidB B = true) {k : Nat} (hk : k < B.length) {y : List Int} (hy : B.getD k [] = y) : Small y := by
  have e := row_th h hk hy
  have e2 := bidB_bd h
  refine ⟨by omega, fun x hx => ?_⟩
  obtain ⟨j, hj, rfl⟩ := List.mem_iff_getElem.1 hx
  have q := bid_rg h k j
  rw [hy, getD_of_lt y j hj] at q; omega
theorem sumN_rg {f : Nat → Int} {a b : Int} : ∀ {n : Nat}, (∀ k, k < n → a ≤ f k ∧ f k ≤ b) → (n : Int) * a ≤ sumN f n ∧ sumN f n ≤ (n : Int) * b
  | 0, _ => by simp [sumN]
  | n + 1, h => by
    have e := sumN_rg (n := n) fun k hk => h k (by omega)
    have e2 := h n (by omega)
    simp only [sumN]
    rw [Int.natCast_add, Int.add_mul, Int.add_mul]
    simp only [Int.natCast_one, Int.one_mul]
    omega
theorem sumN_bd {f : Nat → Int} {n : Nat} {b : Int} (hn : n ≤ 4) (hb : 0 ≤ b) (h : ∀ k, k < n → 0 ≤ f k ∧ f k ≤ b) : 0 ≤ sumN f n ∧ sumN f n ≤ 4 * b := by
  have e := sumN_rg h
  have q : (n : Int) * b ≤ 4 * b := Int.mul_le_mul_of_nonneg_right (by omega) hb
  omega
theorem row_sum_rg {B : List (List Int)} (h : bidB B = true) {k : Nat} (hk : k < B.length) {y : List Int} (hy : B.getD k [] = y) : 0 ≤ y.sum ∧ y.sum ≤ 48 := by
  have e := row_th h hk hy
  have e2 := bidB_bd h
  rw [list_sumN]
  exact sumN_bd (b := 12) (by omega) (by omega) fun j _ => by have q := bid_rg h k j; rw [hy] at q; exact q
theorem fair_rg {B : List (List Int)} (h : bidB B = true) (k : Nat) : 0 ≤ (fnRow B.length (fair B)).getD k 0 ∧ (fnRow B.length (fair B)).getD k 0 ≤ 2304 := by
  by_cases hk : k < B.length
  · rw [fnRow_getD _ hk]
    have e := row_sum_rg h hk rfl
    have e2 := bidB_bd h
    unfold fair
    have q1 := Int.ediv_nonneg (show 0 ≤ 48 * (B.getD k []).sum by omega) (show 0 ≤ (B.length : Int) by omega)
    have q2 := Int.ediv_le_self (B.length : Int) (show 0 ≤ 48 * (B.getD k []).sum by omega)
    omega
  · rw [getD_far _ (by rw [fnRow_length]; omega)]; omega
theorem takesTo_rg {B : List (List Int)} (h : bidB B = true) {m : Nat} (hm : m ≤ 4) (k : Nat) : 0 ≤ takesTo B m k ∧ takesTo B m k ≤ 2304 := by
  have e := sumN_bd (f := fun j => if best B j = k then 48 * bid B k j else 0) (n := m) (b := 576) hm (by omega) fun j _ => by
    have q : 0 ≤ bid B k j ∧ bid B k j ≤ 12 := bid_rg h k j
    show 0 ≤ (if best B j = k then 48 * bid B k j else 0) ∧ (if best B j = k then 48 * bid B k j else 0) ≤ 576
    split <;> omega
  exact e
theorem takesRow_rg {B : List (List Int)} (h : bidB B = true) {m : Nat} (hm : m ≤ 4) (k : Nat) : 0 ≤ (fnRow B.length (takesTo B m)).getD k 0 ∧ (fnRow B.length (takesTo B m)).getD k 0 ≤ 2304 := by
  by_cases hk : k < B.length
  · rw [fnRow_getD _ hk]; exact takesTo_rg h hm k
  · rw [getD_far _ (by rw [fnRow_length]; omega)]; omega
theorem takes_rg {B : List (List Int)} (h : bidB B = true) (k : Nat) : 0 ≤ (fnRow B.length (takes B)).getD k 0 ∧ (fnRow B.length (takes B)).getD k 0 ≤ 2304 := takesRow_rg h (bidB_bd h).2.2 k
theorem takersRow_yes {B : List (List Int)} (h : bidB B = true) : takersRow B = fnRow (things B) (fun j => (best B j : Int)) := if_pos h
theorem fairRow_yes {B : List (List Int)} (h : bidB B = true) : fairRow B = fnRow B.length (fair B) := if_pos h
theorem takersRow_len {B : List (List Int)} (h : bidB B = true) : (takersRow B).length = things B := by rw [takersRow_yes h, fnRow_length]
theorem takers_rg {B : List (List Int)} (h : bidB B = true) {j : Nat} (hj : j < things B) : 0 ≤ (takersRow B).getD j 0 ∧ (takersRow B).getD j 0 < (B.length : Int) := by
  rw [takersRow_yes h, fnRow_getD _ hj]
  have e := best_lt ((bidB_iff B).1 h) j
  omega
theorem best_of {B : List (List Int)} (h : bidB B = true) {j x : Nat} (hj : j < things B) (hx : (takersRow B).getD j 0 = (x : Int)) : best B j = x := by
  rw [takersRow_yes h, fnRow_getD _ hj] at hx
  omega
theorem takes_set {B : List (List Int)} {j x : Nat} {o b : Int} (hb : best B j = x) (ho : o = (fnRow B.length (takesTo B j)).getD x 0) (hq : b = bid B x j) (hx : x < B.length) : fnRow B.length (takesTo B (j + 1)) = (fnRow B.length (takesTo B j)).set x (o + 48 * b) := by
  symm
  refine fnRow_set (fun i _ hi => ?_) ?_
  · show takesTo B j i = takesTo B j i + (if best B j = i then 48 * bid B i j else 0)
    rw [if_neg (by rw [hb]; exact fun z => hi z.symm)]; omega
  · rw [ho, fnRow_getD _ hx, hq]
    show _ = takesTo B j x + (if best B j = x then 48 * bid B x j else 0)
    rw [if_pos hb]
theorem takes_zero (B : List (List Int)) : fnRow B.length (takesTo B 0) = List.replicate B.length 0 := by
  refine row_ext (by rw [fnRow_length, List.length_replicate]) fun k hk => ?_
  rw [fnRow_length] at hk
  rw [fnRow_getD _ hk]
  simp [takesTo, sumN, List.getD, hk]
theorem fnRow_sum (f : Nat → Int) (n : Nat) : (fnRow n f).sum = sumN f n := by
  rw [list_sumN, fnRow_length]; exact sumN_congr fun k hk => fnRow_getD _ hk
theorem fnRow_small {f : Nat → Int} {n : Nat} (hn : n ≤ 1048576) (h : ∀ k, k < n → -1000000 ≤ f k ∧ f k ≤ 1000000) : Small (fnRow n f) := by
  refine ⟨by rw [fnRow_length]; exact hn, fun x hx => ?_⟩
  obtain ⟨k, hk, rfl⟩ := List.mem_iff_getElem.1 hx
  rw [← getD_of_lt _ k, fnRow_getD _ (by rwa [fnRow_length] at hk)]
  exact h k (by rwa [fnRow_length] at hk)
theorem takes_small {B : List (List Int)} (h : bidB B = true) : Small (fnRow B.length (takes B)) := fnRow_small (by have e := bidB_bd h; omega) fun k _ => by have e := takesTo_rg h (m := things B) (bidB_bd h).2.2 k; unfold takes; omega
theorem fair_small {B : List (List Int)} (h : bidB B = true) : Small (fairRow B) := by
  rw [fairRow_yes h]
  exact fnRow_small (by have e := bidB_bd h; omega) fun k hk => by have e := fair_rg h k; rw [fnRow_getD _ hk] at e; omega
theorem takes_sum_rg {B : List (List Int)} (h : bidB B = true) : 0 ≤ (fnRow B.length (takes B)).sum ∧ (fnRow B.length (takes B)).sum ≤ 9216 := by
  rw [fnRow_sum]
  exact sumN_bd (b := 2304) (bidB_bd h).2.1 (by omega) fun k _ => takesTo_rg h (bidB_bd h).2.2 k
theorem fair_sum_rg {B : List (List Int)} (h : bidB B = true) : 0 ≤ (fairRow B).sum ∧ (fairRow B).sum ≤ 9216 := by
  rw [fairRow_yes h, fnRow_sum]
  exact sumN_bd (b := 2304) (bidB_bd h).2.1 (by omega) fun k hk => by have e := fair_rg h k; rwa [fnRow_getD _ hk] at e
theorem surplus_is {B : List (List Int)} (h : bidB B = true) : surplusV B = (fnRow B.length (takes B)).sum - (fairRow B).sum := by
  rw [surplusV, if_pos h, fairRow_yes h, fnRow_sum, fnRow_sum]; rfl
theorem surplusV_rg (B : List (List Int)) : -1 ≤ surplusV B ∧ surplusV B ≤ 9216 := by
  by_cases h : bidB B = true
  · have e := takes_sum_rg h
    have e2 := fair_sum_rg h
    have e3 := surplus_nonneg ((bidB_iff B).1 h)
    have e4 := surplus_is h
    rw [surplusV, if_pos h] at e4 ⊢; omega
  · rw [surplusV, if_neg h]; omega
theorem len_mul_rg {n : Nat} {d : Int} (hn : n ≤ 4) (h1 : -20000 ≤ d) (h2 : d ≤ 20000) : -80000 ≤ (n : Int) * d ∧ (n : Int) * d ≤ 80000 := by
  rcases (show n = 0 ∨ n = 1 ∨ n = 2 ∨ n = 3 ∨ n = 4 from by omega) with rfl | rfl | rfl | rfl | rfl <;> simp <;> omega
theorem mul_len_rg {n : Nat} {d : Int} (hn : n ≤ 4) (h1 : -20000 ≤ d) (h2 : d ≤ 20000) : -80000 ≤ d * (n : Int) ∧ d * (n : Int) ≤ 80000 := by rw [Int.mul_comm]; exact len_mul_rg hn h1 h2
theorem fairRow_rg {B : List (List Int)} (h : bidB B = true) (k : Nat) : 0 ≤ (fairRow B).getD k 0 ∧ (fairRow B).getD k 0 ≤ 2304 := by rw [fairRow_yes h]; exact fair_rg h k
theorem takersRow_few4 (B : List (List Int)) : (takersRow B).length ≤ 4 := by
  unfold takersRow; split
  · rename_i h; rw [fnRow_length]; exact (bidB_bd h).2.2
  · simp
theorem fairRow_few4 (B : List (List Int)) : (fairRow B).length ≤ 4 := by
  unfold fairRow; split
  · rename_i h; rw [fnRow_length]; exact (bidB_bd h).2.1
  · simp
theorem paidRow_few4 (B : List (List Int)) : (paidRow B).length ≤ 4 := by
  unfold paidRow; split
  · rename_i h; rw [fnRow_length]; exact (bidB_bd h).2.1
  · simp
theorem endRow_few4 (B : List (List Int)) : (endRow B).length ≤ 4 := by
  unfold endRow; split
  · rename_i h; rw [fnRow_length]; exact (bidB_bd h).2.1
  · simp
theorem takersRow_few (B : List (List Int)) (_h : B.length ≤ 4) : (takersRow B).length ≤ 4 := by
  unfold takersRow; split
  · rename_i h; rw [fnRow_length]; exact (bidB_bd h).2.2
  · simp
theorem fairRow_few (B : List (List Int)) (hB : B.length ≤ 4) : (fairRow B).length ≤ 4 := by
  unfold fairRow; split
  · rw [fnRow_length]; exact hB
  · simp
theorem paidRow_few (B : List (List Int)) (hB : B.length ≤ 4) : (paidRow B).length ≤ 4 := by
  unfold paidRow; split
  · rw [fnRow_length]; exact hB
  · simp
theorem endRow_few (B : List (List Int)) (hB : B.length ≤ 4) : (endRow B).length ≤ 4 := by
  unfold endRow; split
  · rw [fnRow_length]; exact hB
  · simp
theorem paid_rg {B : List (List Int)} (h : bidB B = true) (k : Nat) : -200000 ≤ (fnRow B.length (paid B)).getD k 0 ∧ (fnRow B.length (paid B)).getD k 0 ≤ 200000 := by
  by_cases hk : k < B.length
  · rw [fnRow_getD _ hk]
    have e1 := fair_rg h k
    rw [fnRow_getD _ hk] at e1
    have e2 := takesTo_rg h (m := things B) (bidB_bd h).2.2 k
    have e3 := surplusV_rg B
    rw [surplusV, if_pos h] at e3
    have e4 := len_mul_rg (n := B.length) (d := fair B k - takes B k) (bidB_bd h).2.1 (by show _ ≤ _ - takesTo B _ k; omega) (by show _ - takesTo B _ k ≤ _; omega)
    unfold paid; omega
  · rw [getD_far _ (by rw [fnRow_length]; omega)]; omega
theorem paidRow_rg {B : List (List Int)} (h : bidB B = true) (k : Nat) : -200000 ≤ (paidRow B).getD k 0 ∧ (paidRow B).getD k 0 ≤ 200000 := by rw [paidRow, if_pos h]; exact paid_rg h k
theorem paidRow_small (B : List (List Int)) : Small (paidRow B) := by
  by_cases h : bidB B = true
  · rw [paidRow, if_pos h]
    exact fnRow_small (by have e := bidB_bd h; omega) fun k hk => by have e := paid_rg h k; rw [fnRow_getD _ hk] at e; omega
  · rw [paidRow, if_neg h]; exact ⟨by simp, fun x hx => by cases hx⟩
theorem endRow_rg {B : List (List Int)} (h : bidB B = true) (k : Nat) : -300000 ≤ (endRow B).getD k 0 ∧ (endRow B).getD k 0 ≤ 300000 := by
  rw [endRow, if_pos h]
  by_cases hk : k < B.length
  · rw [fnRow_getD _ hk]
    have e1 := paid_rg h k
    rw [fnRow_getD _ hk] at e1
    have e2 := takesTo_rg h (m := things B) (bidB_bd h).2.2 k
    have e4 := len_mul_rg (n := B.length) (d := takes B k) (bidB_bd h).2.1 (by show _ ≤ takesTo B _ k; omega) (by show takesTo B _ k ≤ _; omega)
    unfold endAt; omega
  · rw [getD_far _ (by rw [fnRow_length]; omega)]; omega
/-- Whether the first k people bid as the first one. -/
def AllSame (B : List (List Int)) (k : Nat) (b : Bool) : Prop := (b = true → ∀ i, i < k → B.getD i [] = B.getD 0 []) ∧ (b = false → ∃ i, i < k ∧ ¬ B.getD i [] = B.getD 0 [])
theorem AllSame.zero (B : List (List Int)) : AllSame B 0 true := ⟨fun _ i h => absurd h (by omega), (fun h => by cases h)⟩
theorem AllSame.more {B : List (List Int)} {k : Nat} (h : AllSame B k true) (e : B.getD k [] = B.getD 0 []) : AllSame B (k + 1) true := by
  refine ⟨fun _ i hi => ?_, fun h => by cases h⟩
  rcases Nat.lt_or_ge i k with q | q
  · exact h.1 rfl i q
  · obtain rfl : i = k := by omega
    exact e
theorem AllSame.less {B : List (List Int)} {k : Nat} (_h : AllSame B k true) {n : Nat} (_hn : k < n) (e : ¬ B.getD k [] = B.getD 0 []) : AllSame B (k + 1) false :=
  ⟨(fun h => by cases h), fun _ => ⟨k, by omega, e⟩⟩
theorem AllSame.keep {B : List (List Int)} {k : Nat} (h : AllSame B k false) : AllSame B (k + 1) false :=
  ⟨(fun h => by cases h), fun _ => by obtain ⟨i, hi, hn⟩ := h.2 rfl; exact ⟨i, by omega, hn⟩⟩
theorem takes_more {B : List (List Int)} {j k : Nat} {t b : Int} (ht : t = takesTo B j k) (hk : best B j = k) (hb : b = bid B k j) : t + 48 * b = takesTo B (j + 1) k := by
  show _ = takesTo B j k + (if best B j = k then 48 * bid B k j else 0)
  rw [if_pos hk, ht, hb]
theorem takes_none {B : List (List Int)} {j k : Nat} {t : Int} (ht : t = takesTo B j k) (hk : ¬ best B j = k) : t = takesTo B (j + 1) k := by
  show _ = takesTo B j k + (if best B j = k then 48 * bid B k j else 0)
  rw [if_neg hk, ht]; omega
theorem two_none : BidOk [[], []] := ⟨by decide, by decide, by decide, fun k hk => ⟨by rcases (show k = 0 ∨ k = 1 from by simp at hk; omega) with rfl | rfl <;> rfl, fun j hj => absurd hj (by simp [things])⟩⟩
theorem take_back {B : List (List Int)} {k : Nat} {y : List Int} (hk : k < B.length) (hy : B.getD k [] = y) : (B.take (k + 1)).reverse = [[] ++ y] ++ (B.take k).reverse := by
  have e : B[k] = y := by rw [← hy]; simp [List.getD, hk]
  rw [List.take_succ_eq_append_getElem hk, List.reverse_append, e]; rfl
theorem take_less {B : List (List Int)} {k : Nat} {y : List Int} (hk : k < B.length) (hy : B.getD k [] = y) : (lessB B).take (k + 1) = (lessB B).take k ++ [y.take (y.length - 1)] := by
  have e : B[k] = y := by rw [← hy]; simp [List.getD, hk]
  rw [List.take_succ_eq_append_getElem (by simpa [lessB] using hk)]
  simp [lessB, e]
theorem take_wide {B : List (List Int)} {k : Nat} {y : List Int} {x : Int} (hk : k < B.length) (hy : B.getD k [] = y) : (wideB B x).take (k + 1) = (wideB B x).take k ++ [[] ++ y ++ [x]] := by
  have e : B[k] = y := by rw [← hy]; simp [List.getD, hk]
  rw [List.take_succ_eq_append_getElem (by simpa [wideB] using hk)]
  simp [wideB, e]
theorem surplusV_back (B : List (List Int)) : surplusV (B.take B.length).reverse = surplusV B := by
  rw [List.take_length, surplusV, surplusV, back_iff]
  by_cases h : bidB B = true
  · rw [if_pos h, if_pos h, surplus_back ((bidB_iff B).1 h)]
  · rw [if_neg h, if_neg h]
theorem surplusV_wide {B : List (List Int)} (h : bidB B = true) (ht : things B ≤ 3) : surplusV ((wideB B 5).take B.length) = surplusV B := by
  have hl : (wideB B 5).length = B.length := by simp [wideB]
  have hb := (bidB_iff B).1 h
  rw [← hl, List.take_length, surplusV, surplusV, if_pos h, if_pos ((bidB_iff _).2 (wideB_ok hb ht (by omega))), surplus_wide hb ht (by omega)]
theorem surplusV_less {B : List (List Int)} (h : bidB B = true) : surplusV ((lessB B).take B.length) ≤ surplusV B ∧ 0 ≤ surplusV ((lessB B).take B.length) := by
  have hl : (lessB B).length = B.length := by simp [lessB]
  have hb := (bidB_iff B).1 h
  rw [← hl, List.take_length, surplusV, surplusV, if_pos h, if_pos ((bidB_iff _).2 (lessB_ok hb))]
  exact ⟨surplus_less hb, surplus_nonneg (lessB_ok hb)⟩
theorem surplusV_back2 (B : List (List Int)) : surplusV B.reverse = surplusV B := by have e := surplusV_back B; rwa [List.take_length] at e
theorem surplusV_wide2 {B : List (List Int)} (h : bidB B = true) (ht : things B ≤ 3) : surplusV (wideB B 5) = surplusV B := by
  have e := surplusV_wide h ht
  rwa [show (wideB B 5).take B.length = wideB B 5 from by rw [← show (wideB B 5).length = B.length from by simp [wideB], List.take_length]] at e
theorem surplusV_less2 {B : List (List Int)} (h : bidB B = true) : surplusV (lessB B) ≤ surplusV B ∧ 0 ≤ surplusV (lessB B) := by
  have e := surplusV_less h
  rwa [show (lessB B).take B.length = lessB B from by rw [← show (lessB B).length = B.length from by simp [lessB], List.take_length]] at e
theorem fairRow_blen {B : List (List Int)} (h : bidB B = true) : (fairRow (B.take B.length).reverse).length = B.length := by
  rw [List.take_length, fairRow_yes (by rw [back_iff]; exact h), fnRow_length, List.length_reverse]
theorem fairRow_blen2 {B : List (List Int)} (h : bidB B = true) : (fairRow B.reverse).length = B.length := by have e := fairRow_blen h; rwa [List.take_length] at e
theorem fairRow_back {B : List (List Int)} {k x : Nat} (h : bidB B = true) (hk : k < B.length) (hx : x = B.length - 1 - k) : (fairRow (B.take B.length).reverse).getD x 0 = (fairRow B).getD k 0 := by
  rw [List.take_length, fairRow_yes (by rw [back_iff]; exact h), fairRow_yes h, fnRow_getD _ hk, List.length_reverse, fnRow_getD _ (by omega), hx]
  exact fair_back hk
theorem fairRow_back2 {B : List (List Int)} {k x : Nat} (h : bidB B = true) (hk : k < B.length) (hx : x = B.length - 1 - k) : (fairRow B.reverse).getD x 0 = (fairRow B).getD k 0 := by have e := fairRow_back h hk hx; rwa [List.take_length] at e

set_option maxRecDepth 10000 in
set_option maxHeartbeats 2000000 in
theorem specTakersOf_yes (A : Option Addr) (c : Nat) (B : List (List Int)) (w : World) (lo hi : Nat) (h : Grid w lo hi A B) (hh : hi ≤ w.heap.size) (hl : B.length ≤ 1152921504606846976) (hb : bidB B = true) :
    Calls Try.prog 22 #[.slice A B.length c] w (RetInts w (takersRow B)) := by
  have HBO := Lib.hid hb
  have hbd := bidB_bd hb
  obtain ⟨hB2, hB4, hT4⟩ := hbd
  clear hb
  go_enter Try.func22, Try.ntmps22
  have o1_ := h.alloc (by first | omega | (simp; omega) | simp) (.cells #[] 3)
  have B2_ := (Below.refl w.heap.size w).alloc (Nat.le_refl _) (.cells #[] 3)
  have G3_ : Grow (w.alloc (.cells #[] 3)) (w.heap.size) 0 ([] : List Int) := by have e := grow_lit w ([] : List Int) (by simp); (try simp only [hsz] at e); exact e
  have l4_ := G3_.lt
  have HL5_ : Hid (([] : List Int).length = 0) := rfl
  go_wp2_with fail
  refine (specBidsOk_any A c B _ _ _ o1_ (by first | omega | (simp; omega) | simp) hl).mono ?_
  rintro e w6 ⟨he, hb6_⟩
  rw [HBO.out] at he
  subst he
  have o7_ := o1_.below hb6_ (by first | omega | (simp; omega) | simp)
  have o8_ := G3_.below hb6_ (by first | omega | (simp; omega) | simp)
  have z9_ := hb6_.size
  try simp at z9_
  have B10_ := B2_.trans (hb6_.mono (by first | omega | (simp; omega) | simp))
  clear hb6_
  obtain ⟨b11_, f12_, rfl, _, b11_h, -⟩ := o7_ (by omega)
  obtain ⟨D13_, d14_, c15_, F16_, rm18_⟩ := o7_.at_ 0 (by omega)
  obtain ⟨y17_, hy17_⟩ : ∃ y_, B.getD 0 [] = y_ := ⟨_, rfl⟩
  rw [hy17_] at c15_ F16_ rm18_
  have qy17_ := row_th HBO.out (k := 0) (by omega) hy17_
  obtain ⟨qy17_a, qy17_b⟩ := qy17_
  have Hy17_ := Lib.hid hy17_
  clear hy17_
  have c15_ : w6.cell? ⟨b11_, f12_, none⟩ = some (.slice D13_ y17_.length d14_) := c15_
  have c15_i : 0 < (B.length : Int) := by omega
  have c15_j : (0 : Int) ≤ 0 := by omega
  have c15_n : 0 < B.length := by omega
  go_wp2
  go_loopw [4, 3] (fun i v wr => ∃ j : Nat, ∃ g cg : Nat, i = .int .i64 j ∧ v = .slice (some ⟨g, 0, none⟩) j cg ∧ (j ≤ y17_.length) ∧ w.heap.size ≤ g ∧ Grow wr g cg (fnRow j (fun i => (best B i : Int))) ∧ Below w.heap.size w wr ∧ w6.heap.size ≤ wr.heap.size ∧ Grid wr (lo) (hi) (some ⟨b11_, f12_, none⟩) B ∧ Ints wr (lo) (hi) D13_ y17_) (fun i v _ => y17_.length - (intOf i).toNat)
  case atStart => exact ⟨0, w.heap.size, 0, rfl, (slice_n (by first | rfl | omega | simp)), Nat.zero_le _, (by omega), (by show Grow _ _ _ []; exact o8_), B10_, (by first | omega | (simp; omega) | simp), o7_, F16_⟩
  case round =>
    obtain ⟨j, g, cg, rfl, rfl, hj, glb, G20_, k21_, k22_, k23_, k24_⟩ := hrel
    obtain ⟨w19, rfl⟩ : ∃ x, x = wr := ⟨_, rfl⟩
    have HL25_ : Hid ((fnRow j (fun i => (best B i : Int))).length = j) := fnRow_length _ _
    have l26_ := G20_.lt
    by_cases hlt0 : j < y17_.length
    · obtain ⟨D27_, d28_, c29_, F30_, rm32_⟩ := k23_.at_ 0 (by omega)
      rw [Hy17_.out] at c29_ F30_ rm32_
      have c29_ : w19.cell? ⟨b11_, f12_, none⟩ = some (.slice D27_ y17_.length d28_) := c29_
      have c29_i : 0 < (B.length : Int) := by omega
      have c29_j : (0 : Int) ≤ 0 := by omega
      have c29_n : 0 < B.length := by omega
      go_wp2
      go_loopw [5, 6] (fun bb ii wr => ∃ k : Nat, ∃ m : Nat, bb = .int .i64 m ∧ ii = .int .i64 k ∧ (1 ≤ k) ∧ (k ≤ B.length) ∧ (m < k) ∧ (m < B.length) ∧ (m = bestTo B j k) ∧ Below w.heap.size w wr ∧ w19.heap.size ≤ wr.heap.size ∧ Grid wr (lo) (hi) (some ⟨b11_, f12_, none⟩) B ∧ Ints wr (lo) (hi) D13_ y17_ ∧ Grow wr g cg (fnRow j (fun i => (best B i : Int))) ∧ Ints wr (lo) (hi) D27_ y17_) (fun bb ii _ => B.length - (intOf ii).toNat)
      case atStart => exact ⟨1, 0, rfl, rfl, Nat.le_refl _, by omega, by omega, by omega, (bestTo_one B j).symm, k21_, (by first | omega | (simp; omega) | simp), k23_, k24_, G20_, F30_⟩
      case round =>
        obtain ⟨k, m, rfl, rfl, hk1, hkB, hmk, hmB, hm, k34_, k35_, k36_, k37_, k38_, k39_⟩ := hrel
        obtain ⟨w33, rfl⟩ : ∃ x, x = wr := ⟨_, rfl⟩
        have HM := Lib.hid hm
        clear hm
        by_cases hlt2 : k < B.length
        · obtain ⟨D40_, d41_, c42_, F43_, rm45_⟩ := k36_.at_ k (by omega)
          obtain ⟨y44_, hy44_⟩ : ∃ y_, B.getD k [] = y_ := ⟨_, rfl⟩
          rw [hy44_] at c42_ F43_ rm45_
          have qy44_ := row_th HBO.out (k := k) (by omega) hy44_
          obtain ⟨qy44_a, qy44_b⟩ := qy44_
          have Hy44_ := Lib.hid hy44_
          clear hy44_
          have c42_ : w33.cell? ⟨b11_, f12_ + k, none⟩ = some (.slice D40_ y44_.length d41_) := c42_
          have c42_i : (k : Int) < (B.length : Int) := by omega
          have c42_j : (0 : Int) ≤ (k : Int) := by omega
          obtain ⟨b46_, f47_, rfl, _, b46_h, -⟩ := F43_ (by omega)
          have c48_ : w33.cell? ⟨b46_, f47_ + j, none⟩ = some (.int .i64 (y44_.getD j 0)) := F43_.at2 j (by first | omega | (simp; omega) | simp)
          have c48_i : (j : Int) < (y44_.length : Int) := by omega
          have c48_j : (0 : Int) ≤ (j : Int) := by omega
          have v49_g := (show 0 ≤ y44_.getD j 0 ∧ y44_.getD j 0 ≤ 12 from by rw [← Hy44_.out]; exact bid_rg HBO.out _ _)
          obtain ⟨v49_, hv49_⟩ : ∃ v, v = y44_.getD j 0 := ⟨_, rfl⟩
          rw [← hv49_] at c48_ v49_g
          have Hv49_ := Lib.hid hv49_
          clear hv49_
          obtain ⟨v49_g1, v49_g2⟩ := v49_g
          obtain ⟨D50_, d51_, c52_, F53_, rm55_⟩ := k36_.at_ m (by omega)
          obtain ⟨y54_, hy54_⟩ : ∃ y_, B.getD m [] = y_ := ⟨_, rfl⟩
          rw [hy54_] at c52_ F53_ rm55_
          have qy54_ := row_th HBO.out (k := m) (by omega) hy54_
          obtain ⟨qy54_a, qy54_b⟩ := qy54_
          have Hy54_ := Lib.hid hy54_
          clear hy54_
          have c52_ : w33.cell? ⟨b11_, f12_ + m, none⟩ = some (.slice D50_ y54_.length d51_) := c52_
          have c52_i : (m : Int) < (B.length : Int) := by omega
          have c52_j : (0 : Int) ≤ (m : Int) := by omega
          obtain ⟨b56_, f57_, rfl, _, b56_h, -⟩ := F53_ (by omega)
          have c58_ : w33.cell? ⟨b56_, f57_ + j, none⟩ = some (.int .i64 (y54_.getD j 0)) := F53_.at2 j (by first | omega | (simp; omega) | simp)
          have c58_i : (j : Int) < (y54_.length : Int) := by omega
          have c58_j : (0 : Int) ≤ (j : Int) := by omega
          have v59_g := (show 0 ≤ y54_.getD j 0 ∧ y54_.getD j 0 ≤ 12 from by rw [← Hy54_.out]; exact bid_rg HBO.out _ _)
          obtain ⟨v59_, hv59_⟩ : ∃ v, v = y54_.getD j 0 := ⟨_, rfl⟩
          rw [← hv59_] at c58_ v59_g
          have Hv59_ := Lib.hid hv59_
          clear hv59_
          obtain ⟨v59_g1, v59_g2⟩ := v59_g
          go_wp2
          go_quiet (fail)
          obtain ⟨w60, hw60⟩ : ∃ x, x = w33.drewN nq := ⟨_, rfl⟩
          have hb61_ : Below w33.heap.size w33 w60 := by rw [hw60]; exact below_drewN (Below.refl _ _) _
          rw [← hw60]
          clear hw60
          have o63_ := k36_.below hb61_ (by first | omega | (simp; omega) | simp)
          have o64_ := k37_.below hb61_ (by first | omega | (simp; omega) | simp)
          have o65_ := k38_.below hb61_ (by first | omega | (simp; omega) | simp)
          have o66_ := k39_.below hb61_ (by first | omega | (simp; omega) | simp)
          have o67_ := F43_.below hb61_ (by first | omega | (simp; omega) | simp)
          have o68_ := F53_.below hb61_ (by first | omega | (simp; omega) | simp)
          have z69_ := hb61_.size
          have B70_ := k34_.trans (hb61_.mono (by first | omega | (simp; omega) | simp))
          clear hb61_
          by_cases h71_ : v49_ > v59_
          · have h71_d : decide (v49_ > v59_) = true := decide_eq_true h71_
            go_wp2
            go_roundw
            case rel => exact ⟨k + 1, k, rfl, by go_num, by omega, by omega, by omega, by omega, by rw [bestTo, ← HM.out, if_pos (show bid B m j < bid B k j from by unfold bid; rw [Hy54_.out, Hy44_.out, ← Hv49_.out, ← Hv59_.out]; omega)], B70_, (by first | omega | (simp; omega) | simp), o63_, o64_, o65_, o66_⟩
            case measure => simp [intOf] <;> omega
          · have h71_d : decide (v49_ > v59_) = false := decide_eq_false h71_
            go_wp2
            go_roundw
            case rel => exact ⟨k + 1, m, rfl, by go_num, by omega, by omega, by omega, by omega, by rw [bestTo, ← HM.out, if_neg (show ¬ bid B m j < bid B k j from by unfold bid; rw [Hy54_.out, Hy44_.out, ← Hv49_.out, ← Hv59_.out]; omega)], B70_, (by first | omega | (simp; omega) | simp), o63_, o64_, o65_, o66_⟩
            case measure => simp [intOf] <;> omega
        · obtain rfl : k = B.length := by omega
          have o40_ := k36_.alloc (by first | omega | (simp; omega) | simp) (.cells #[.int .i64 (m : Int)] 3)
          have o41_ := k37_.alloc (by first | omega | (simp; omega) | simp) (.cells #[.int .i64 (m : Int)] 3)
          have o42_ := k38_.alloc (.cells #[.int .i64 (m : Int)] 3)
          have o43_ := k39_.alloc (by first | omega | (simp; omega) | simp) (.cells #[.int .i64 (m : Int)] 3)
          have B44_ := k34_.alloc (by first | omega | (simp; omega) | simp) (.cells #[.int .i64 (m : Int)] 3)
          have G45_ : Grow (w33.alloc (.cells #[.int .i64 (m : Int)] 3)) (w33.heap.size) 1 ([(m : Int)] : List Int) := by have e := grow_lit w33 ([(m : Int)] : List Int) (by simp); (try simp only [hsz] at e); exact e
          have l46_ := G45_.lt
          have HL47_ : Hid (([(m : Int)] : List Int).length = 1) := rfl
          go_upto_region 6 with (at_builtin; (refine append_gr (by rfl) _ _ (by rfl) (xs := (fnRow j (fun i => (best B i : Int)))) (ys := ([(m : Int)] : List Int)) (by rfl) (by have e := HL25_.out; omega) o42_ (by rfl) (by have e := HL47_.out; omega) (G45_.ints.read) (by omega) ?_; intro g48_ c49_ w50 G50_ hC51_ hg52_))
          have o54_ := o40_.chg hC51_ (by first | omega | (simp; omega) | simp) (by omega)
          have o55_ := o41_.chg hC51_ (by first | omega | (simp; omega) | simp) (by omega)
          have o56_ := o43_.chg hC51_ (by first | omega | (simp; omega) | simp) (by omega)
          have o57_ := G45_.chg hC51_ (by omega)
          have z58_ := hC51_.size
          try simp at z58_
          have B59_ := B44_.trans (hC51_.below (by omega) (by first | omega | (simp; omega) | simp))
          clear hC51_
          have l60_ := G50_.lt
          have HL61_ : Hid (((fnRow j (fun i => (best B i : Int))) ++ ([(m : Int)] : List Int)).length = j + 1) := by show _ = _; rw [List.length_append, HL25_.out, HL47_.out]
          go_wp2
          go_roundw
          case rel => exact ⟨j + 1, g48_, c49_, by go_num, (slice_n (by first | rfl | omega | simp)), by omega, (by omega), (by rw [fnRow_succ, show ((best B j : Nat) : Int) = ((m : Nat) : Int) from by unfold best; rw [HM.out]]; exact G50_), B59_, (by first | omega | (simp; omega) | simp), o54_, o55_⟩
          case measure => simp [intOf] <;> omega
    · obtain rfl : j = y17_.length := by omega
      obtain ⟨D27_, d28_, c29_, F30_, rm32_⟩ := k23_.at_ 0 (by omega)
      rw [Hy17_.out] at c29_ F30_ rm32_
      have c29_ : w19.cell? ⟨b11_, f12_, none⟩ = some (.slice D27_ y17_.length d28_) := c29_
      have c29_i : 0 < (B.length : Int) := by omega
      have c29_j : (0 : Int) ≤ 0 := by omega
      have c29_n : 0 < B.length := by omega
      have hfin : takersRow B = fnRow y17_.length (fun i => (best B i : Int)) := by rw [takersRow, if_pos HBO.out, show things B = y17_.length from by unfold things; rw [Hy17_.out]]
      have HFIN := Lib.hid hfin
      clear hfin
      go_wp2
      go_ret
      rw [HFIN.out]
      (refine retInts_grow G20_ (by omega) ?_ k21_; rw [fnRow_length])

set_option maxRecDepth 10000 in
set_option maxHeartbeats 2000000 in
theorem specTakersOf_no (A : Option Addr) (c : Nat) (B : List (List Int)) (w : World) (lo hi : Nat) (h : Grid w lo hi A B) (hh : hi ≤ w.heap.size) (hl : B.length ≤ 1152921504606846976) (hb : bidB B = false) :
    Calls Try.prog 22 #[.slice A B.length c] w (RetInts w (takersRow B)) := by
  have HBO := Lib.hid hb
  clear hb
  go_enter Try.func22, Try.ntmps22
  have o1_ := h.alloc (by first | omega | (simp; omega) | simp) (.cells #[] 3)
  have B2_ := (Below.refl w.heap.size w).alloc (Nat.le_refl _) (.cells #[] 3)
  have G3_ : Grow (w.alloc (.cells #[] 3)) (w.heap.size) 0 ([] : List Int) := by have e := grow_lit w ([] : List Int) (by simp); (try simp only [hsz] at e); exact e
  have l4_ := G3_.lt
  have HL5_ : Hid (([] : List Int).length = 0) := rfl
  go_wp2_with fail
  refine (specBidsOk_any A c B _ _ _ o1_ (by first | omega | (simp; omega) | simp) hl).mono ?_
  rintro e w6 ⟨he, hb6_⟩
  rw [HBO.out] at he
  subst he
  have o7_ := o1_.below hb6_ (by first | omega | (simp; omega) | simp)
  have o8_ := G3_.below hb6_ (by first | omega | (simp; omega) | simp)
  have z9_ := hb6_.size
  try simp at z9_
  have B10_ := B2_.trans (hb6_.mono (by first | omega | (simp; omega) | simp))
  clear hb6_
  have hfin : takersRow B = ([] : List Int) := by rw [takersRow, if_neg (by rw [HBO.out]; simp)]
  have HFIN := Lib.hid hfin
  clear hfin
  go_wp2
  go_ret
  rw [HFIN.out]
  (refine retInts_grow o8_ (by omega) ?_ B10_; rfl)

theorem specTakersOf_any (A : Option Addr) (c : Nat) (B : List (List Int)) (w : World) (lo hi : Nat) (h : Grid w lo hi A B) (hh : hi ≤ w.heap.size) (hl : B.length ≤ 1152921504606846976) :
    Calls Try.prog 22 #[.slice A B.length c] w (RetInts w (takersRow B)) := by
  by_cases hb : bidB B = true
  · exact specTakersOf_yes A c B w lo hi h hh hl hb
  · exact specTakersOf_no A c B w lo hi h hh hl (by simpa using hb)

set_option maxRecDepth 10000 in
set_option maxHeartbeats 2000000 in
theorem specFairRow_yes (A : Option Addr) (c : Nat) (B : List (List Int)) (w : World) (lo hi : Nat) (h : Grid w lo hi A B) (hh : hi ≤ w.heap.size) (hl : B.length ≤ 1152921504606846976) (hb : bidB B = true) :
    Calls Try.prog 26 #[.slice A B.length c] w (RetInts w (fairRow B)) := by
  have HBO := Lib.hid hb
  have hbd := bidB_bd hb
  obtain ⟨hB2, hB4, hT4⟩ := hbd
  clear hb
  go_enter Try.func26, Try.ntmps26
  have o1_ := h.alloc (by first | omega | (simp; omega) | simp) (.cells #[] 3)
  have B2_ := (Below.refl w.heap.size w).alloc (Nat.le_refl _) (.cells #[] 3)
  have G3_ : Grow (w.alloc (.cells #[] 3)) (w.heap.size) 0 ([] : List Int) := by have e := grow_lit w ([] : List Int) (by simp); (try simp only [hsz] at e); exact e
  have l4_ := G3_.lt
  have HL5_ : Hid (([] : List Int).length = 0) := rfl
  go_wp2
  go_loopw [4, 3] (fun i v wr => ∃ k : Nat, ∃ g cg : Nat, i = .int .i64 k ∧ v = .slice (some ⟨g, 0, none⟩) k cg ∧ (k ≤ B.length) ∧ w.heap.size ≤ g ∧ Grow wr g cg (fnRow k (fair B)) ∧ Below w.heap.size w wr ∧ w.heap.size + 1 ≤ wr.heap.size ∧ Grid wr (lo) (hi) A B) (fun i v _ => B.length - (intOf i).toNat)
  case atStart => exact ⟨0, w.heap.size, 0, rfl, (slice_n (by first | rfl | omega | simp)), by omega, (by omega), (by show Grow _ _ _ []; exact G3_), B2_, (by first | omega | (simp; omega) | simp), o1_⟩
  case round =>
    obtain ⟨k, g, cg, rfl, rfl, hk, glb, G7_, k8_, k9_, k10_⟩ := hrel
    obtain ⟨w6, rfl⟩ : ∃ x, x = wr := ⟨_, rfl⟩
    have HL11_ : Hid ((fnRow k (fair B)).length = k) := fnRow_length _ _
    have l12_ := G7_.lt
    by_cases hlt0 : k < B.length
    · go_wp2_with fail
      refine (specBidsOk_any A c B _ _ _ k10_ (by first | omega | (simp; omega) | simp) hl).mono ?_
      rintro e w13 ⟨he, hb13_⟩
      rw [HBO.out] at he
      subst he
      have o14_ := k10_.below hb13_ (by first | omega | (simp; omega) | simp)
      have o15_ := G7_.below hb13_ (by first | omega | (simp; omega) | simp)
      have z16_ := hb13_.size
      have B17_ := k8_.trans (hb13_.mono (by first | omega | (simp; omega) | simp))
      clear hb13_
      obtain ⟨b18_, f19_, rfl, _, b18_h, -⟩ := o14_ (by omega)
      obtain ⟨D20_, d21_, c22_, F23_, rm25_⟩ := o14_.at_ k (by omega)
      obtain ⟨y24_, hy24_⟩ : ∃ y_, B.getD k [] = y_ := ⟨_, rfl⟩
      rw [hy24_] at c22_ F23_ rm25_
      have qy24_ := row_th HBO.out (k := k) (by omega) hy24_
      obtain ⟨qy24_a, qy24_b⟩ := qy24_
      have Hy24_ := Lib.hid hy24_
      clear hy24_
      have c22_ : w13.cell? ⟨b18_, f19_ + k, none⟩ = some (.slice D20_ y24_.length d21_) := c22_
      have c22_i : (k : Int) < (B.length : Int) := by omega
      have c22_j : (0 : Int) ≤ (k : Int) := by omega
      go_wp2_with fail
      refine (l1Sum_any D20_ d21_ y24_ _ _ _ F23_ (row_small HBO.out (by omega) Hy24_.out)).mono ?_
      rintro e w' ⟨he, rfl⟩
      obtain ⟨v26_, hv26_⟩ : ∃ v, y24_.sum = v := ⟨_, rfl⟩
      rw [hv26_] at he
      subst he
      have v26_g := row_sum_rg HBO.out (by omega) Hy24_.out
      rw [hv26_] at v26_g
      obtain ⟨v26_g1, v26_g2⟩ := v26_g
      have Hv26_ := Lib.hid hv26_
      clear hv26_
      have hq27_a := Int.ediv_nonneg (show 0 ≤ (48 * v26_) by omega) (show 0 ≤ (B.length : Int) by omega)
      have hq27_b := Int.ediv_le_self (B.length : Int) (show 0 ≤ (48 * v26_) by omega)
      have hq27_ : IntKind.i64.wrap ((48 * v26_).tdiv (B.length : Int)) = (48 * v26_) / (B.length : Int) := by rw [Int.tdiv_eq_ediv_of_nonneg (by omega)]; exact IntWalk.i64_in _ (by omega)
      have hq27_y : ((B.length : Int) == 0) = false := by simp only [beq_eq_false_iff_ne]; omega
      have hq27_z : ((B.length : Int) = 0) = False := eq_false (by omega)
      have o28_ := o14_.alloc (by first | omega | (simp; omega) | simp) (.cells #[.int .i64 ((48 * v26_) / (B.length : Int))] 3)
      have o29_ := o15_.alloc (.cells #[.int .i64 ((48 * v26_) / (B.length : Int))] 3)
      have o30_ := F23_.alloc (by first | omega | (simp; omega) | simp) (.cells #[.int .i64 ((48 * v26_) / (B.length : Int))] 3)
      have B31_ := B17_.alloc (by first | omega | (simp; omega) | simp) (.cells #[.int .i64 ((48 * v26_) / (B.length : Int))] 3)
      have G32_ : Grow (w13.alloc (.cells #[.int .i64 ((48 * v26_) / (B.length : Int))] 3)) (w13.heap.size) 1 ([((48 * v26_) / (B.length : Int))] : List Int) := by have e := grow_lit w13 ([((48 * v26_) / (B.length : Int))] : List Int) (by simp); (try simp only [hsz] at e); exact e
      have l33_ := G32_.lt
      have HL34_ : Hid (([((48 * v26_) / (B.length : Int))] : List Int).length = 1) := rfl
      go_upto_region 4 with (at_builtin; (refine append_gr (by rfl) _ _ (by rfl) (xs := (fnRow k (fair B))) (ys := ([((48 * v26_) / (B.length : Int))] : List Int)) (by rfl) (by have e := HL11_.out; omega) o29_ (by rfl) (by have e := HL34_.out; omega) (G32_.ints.read) (by omega) ?_; intro g35_ c36_ w37 G37_ hC38_ hg39_))
      have o41_ := o28_.chg hC38_ (by first | omega | (simp; omega) | simp) (by omega)
      have o42_ := o30_.chg hC38_ (by first | omega | (simp; omega) | simp) (by omega)
      have o43_ := G32_.chg hC38_ (by omega)
      have z44_ := hC38_.size
      try simp at z44_
      have B45_ := B31_.trans (hC38_.below (by omega) (by first | omega | (simp; omega) | simp))
      clear hC38_
      have l46_ := G37_.lt
      have HL47_ : Hid (((fnRow k (fair B)) ++ ([((48 * v26_) / (B.length : Int))] : List Int)).length = k + 1) := by show _ = _; rw [List.length_append, HL11_.out, HL34_.out]
      go_wp2
      go_roundw
      case rel => exact ⟨k + 1, g35_, c36_, by go_num, (slice_n (by first | rfl | omega | simp)), by omega, (by omega), (by rw [fnRow_succ, show fair B k = 48 * v26_ / (B.length : Int) from by unfold fair; rw [Hy24_.out, Hv26_.out]]; exact G37_), B45_, (by first | omega | (simp; omega) | simp), o41_⟩
      case measure => simp [intOf] <;> omega
    · obtain rfl : k = B.length := by omega
      have hfin : fairRow B = fnRow B.length (fair B) := fairRow_yes HBO.out
      have HFIN := Lib.hid hfin
      clear hfin
      go_wp2
      go_ret
      rw [HFIN.out]
      (refine retInts_grow G7_ (by omega) ?_ k8_; rw [fnRow_length])

set_option maxRecDepth 10000 in
set_option maxHeartbeats 2000000 in
theorem specFairRow_no (A : Option Addr) (c : Nat) (B : List (List Int)) (w : World) (lo hi : Nat) (h : Grid w lo hi A B) (hh : hi ≤ w.heap.size) (hl : B.length ≤ 1152921504606846976) (hb : bidB B = false) :
    Calls Try.prog 26 #[.slice A B.length c] w (RetInts w (fairRow B)) := by
  have HBO := Lib.hid hb
  clear hb
  go_enter Try.func26, Try.ntmps26
  have o1_ := h.alloc (by first | omega | (simp; omega) | simp) (.cells #[] 3)
  have B2_ := (Below.refl w.heap.size w).alloc (Nat.le_refl _) (.cells #[] 3)
  have G3_ : Grow (w.alloc (.cells #[] 3)) (w.heap.size) 0 ([] : List Int) := by have e := grow_lit w ([] : List Int) (by simp); (try simp only [hsz] at e); exact e
  have l4_ := G3_.lt
  have HL5_ : Hid (([] : List Int).length = 0) := rfl
  go_wp2
  go_loopw [4, 3] (fun i v wr => ∃ g cg : Nat, i = .int .i64 0 ∧ v = .slice (some ⟨g, 0, none⟩) 0 cg ∧ w.heap.size ≤ g ∧ Grow wr g cg ([] : List Int) ∧ Below w.heap.size w wr ∧ w.heap.size + 1 ≤ wr.heap.size ∧ Grid wr (lo) (hi) A B) (fun i v _ => B.length)
  case atStart => exact ⟨w.heap.size, 0, rfl, (slice_n (by first | rfl | omega | simp)), (by omega), G3_, B2_, (by first | omega | (simp; omega) | simp), o1_⟩
  case round =>
    obtain ⟨g, cg, rfl, rfl, glb, G7_, k8_, k9_, k10_⟩ := hrel
    obtain ⟨w6, rfl⟩ : ∃ x, x = wr := ⟨_, rfl⟩
    have l11_ := G7_.lt
    by_cases hlt0 : 0 < B.length
    · go_wp2_with fail
      refine (specBidsOk_any A c B _ _ _ k10_ (by first | omega | (simp; omega) | simp) hl).mono ?_
      rintro e w12 ⟨he, hb12_⟩
      rw [HBO.out] at he
      subst he
      have o13_ := k10_.below hb12_ (by first | omega | (simp; omega) | simp)
      have o14_ := G7_.below hb12_ (by first | omega | (simp; omega) | simp)
      have z15_ := hb12_.size
      have B16_ := k8_.trans (hb12_.mono (by first | omega | (simp; omega) | simp))
      clear hb12_
      have hfin : fairRow B = ([] : List Int) := by rw [fairRow, if_neg (by rw [HBO.out]; simp)]
      have HFIN := Lib.hid hfin
      clear hfin
      go_wp2
      go_ret
      rw [HFIN.out]
      (refine retInts_grow o14_ (by omega) ?_ B16_; rfl)
    · have hfin : fairRow B = ([] : List Int) := by rw [fairRow, if_neg (by rw [HBO.out]; simp)]
      have HFIN := Lib.hid hfin
      clear hfin
      go_wp2
      go_ret
      rw [HFIN.out]
      (refine retInts_grow G7_ (by omega) ?_ k8_; rfl)

theorem specFairRow_any (A : Option Addr) (c : Nat) (B : List (List Int)) (w : World) (lo hi : Nat) (h : Grid w lo hi A B) (hh : hi ≤ w.heap.size) (hl : B.length ≤ 1152921504606846976) :
    Calls Try.prog 26 #[.slice A B.length c] w (RetInts w (fairRow B)) := by
  by_cases hb : bidB B = true
  · exact specFairRow_yes A c B w lo hi h hh hl hb
  · exact specFairRow_no A c B w lo hi h hh hl (by simpa using hb)

set_option maxRecDepth 10000 in
set_option maxHeartbeats 2000000 in
theorem specTakes_yes (A : Option Addr) (c : Nat) (B : List (List Int)) (w : World) (lo hi : Nat) (h : Grid w lo hi A B) (hh : hi ≤ w.heap.size) (hl : B.length ≤ 1152921504606846976) (hb : bidB B = true) :
    Calls Try.prog 52 #[.slice A B.length c] w (RetInts w (fnRow B.length (takes B))) := by
  have HBO := Lib.hid hb
  have hbd := bidB_bd hb
  obtain ⟨hB2, hB4, hT4⟩ := hbd
  clear hb
  go_enter Try.func52, Try.ntmps52
  go_upto_region 2 with (at_make; (refine make_gr (by rfl) _ _ (by rfl) (n := B.length) (x := (B.length : Int)) (by omega) (by rfl) (by rfl) (by omega) ?_; intro w1 G1_ hb2_))
  have o4_ := h.below hb2_ (by first | omega | (simp; omega) | simp)
  have z5_ := hb2_.size
  have B6_ := (Below.refl w.heap.size w).trans (hb2_.mono (by first | omega | (simp; omega) | simp))
  clear hb2_
  have l7_ := G1_.lt
  have HL8_ : Hid ((List.replicate B.length 0).length = B.length) := List.length_replicate
  go_wp2_with fail
  refine (specTakersOf_any A c B _ _ _ o4_ (by first | omega | (simp; omega) | simp) hl).mono ?_
  rintro e w9 ⟨A10_, c11_, rfl, ho12_, hb9_⟩
  have o13_ := o4_.below hb9_ (by first | omega | (simp; omega) | simp)
  have o14_ := G1_.below hb9_ (by first | omega | (simp; omega) | simp)
  have z15_ := hb9_.size
  have B16_ := B6_.trans (hb9_.mono (by first | omega | (simp; omega) | simp))
  clear hb9_
  have HTL := Lib.hid (takersRow_len HBO.out)
  have htl1 : (takersRow B).length ≤ things B := by have e := HTL.out; omega
  have htl2 : things B ≤ (takersRow B).length := by have e := HTL.out; omega
  go_wp2
  go_loopw [5] (fun i wr => ∃ j : Nat, i = .int .i64 j ∧ (j ≤ (takersRow B).length) ∧ Grow wr w.heap.size B.length (fnRow B.length (takesTo B j)) ∧ Below w.heap.size w wr ∧ w9.heap.size ≤ wr.heap.size ∧ Grid wr (lo) (hi) A B ∧ Own wr (w1.heap.size) (w9.heap.size) A10_ (takersRow B)) (fun i _ => (takersRow B).length - (intOf i).toNat)
  case atStart => exact ⟨0, rfl, by omega, (by rw [takes_zero]; exact o14_), B16_, (by first | omega | (simp; omega) | simp), o13_, ho12_⟩
  case round =>
    obtain ⟨j, rfl, hj, G18_, k19_, k20_, k21_, k22_⟩ := hrel
    obtain ⟨w17, rfl⟩ : ∃ x, x = wr := ⟨_, rfl⟩
    have HL23_ : Hid ((fnRow B.length (takesTo B j)).length = B.length) := fnRow_length _ _
    have l24_ := G18_.lt
    by_cases hlt0 : j < (takersRow B).length
    · obtain ⟨b25_, f26_, rfl, b25_l, b25_h, -⟩ := k22_.ints (by omega)
      have c27_ : w17.cell? ⟨b25_, f26_ + j, none⟩ = some (.int .i64 ((takersRow B).getD j 0)) := k22_.ints.at2 j (by first | omega | (simp; omega) | simp)
      have c27_i : (j : Int) < ((takersRow B).length : Int) := by omega
      have c27_j : (0 : Int) ≤ (j : Int) := by omega
      have v28_g := takers_rg HBO.out (j := j) (by omega)
      obtain ⟨v28_, hv28_⟩ : ∃ v, v = (takersRow B).getD j 0 := ⟨_, rfl⟩
      rw [← hv28_] at c27_ v28_g
      have Hv28_ := Lib.hid hv28_
      clear hv28_
      obtain ⟨v28_g1, v28_g2⟩ := v28_g
      obtain ⟨x29_, hx29_⟩ : ∃ x : Nat, v28_ = (x : Int) := ⟨(v28_).toNat, by omega⟩
      have Hx29_ := Lib.hid hx29_
      have x29_b : x29_ < B.length := by omega
      have c30_ : w17.cell? ⟨w.heap.size, x29_, none⟩ = some (.int .i64 ((fnRow B.length (takesTo B j)).getD x29_ 0)) := G18_.at_ x29_ (by rw [fnRow_length]; omega)
      have c30_i : (x29_ : Int) < (B.length : Int) := by omega
      have c30_j : (0 : Int) ≤ (x29_ : Int) := by omega
      have v31_g := takesRow_rg HBO.out (m := j) (by omega) x29_
      obtain ⟨v31_, hv31_⟩ : ∃ v, v = (fnRow B.length (takesTo B j)).getD x29_ 0 := ⟨_, rfl⟩
      rw [← hv31_] at c30_ v31_g
      have Hv31_ := Lib.hid hv31_
      clear hv31_
      obtain ⟨v31_g1, v31_g2⟩ := v31_g
      obtain ⟨b32_, f33_, rfl, _, b32_h, -⟩ := k21_ (by omega)
      obtain ⟨D34_, d35_, c36_, F37_, rm39_⟩ := k21_.at_ x29_ (by omega)
      obtain ⟨y38_, hy38_⟩ : ∃ y_, B.getD x29_ [] = y_ := ⟨_, rfl⟩
      rw [hy38_] at c36_ F37_ rm39_
      have qy38_ := row_th HBO.out (k := x29_) (by omega) hy38_
      obtain ⟨qy38_a, qy38_b⟩ := qy38_
      have Hy38_ := Lib.hid hy38_
      clear hy38_
      have c36_ : w17.cell? ⟨b32_, f33_ + x29_, none⟩ = some (.slice D34_ y38_.length d35_) := c36_
      have c36_i : (x29_ : Int) < (B.length : Int) := by omega
      have c36_j : (0 : Int) ≤ (x29_ : Int) := by omega
      obtain ⟨b40_, f41_, rfl, _, b40_h, -⟩ := F37_ (by omega)
      have c42_ : w17.cell? ⟨b40_, f41_ + j, none⟩ = some (.int .i64 (y38_.getD j 0)) := F37_.at2 j (by first | omega | (simp; omega) | simp)
      have c42_i : (j : Int) < (y38_.length : Int) := by omega
      have c42_j : (0 : Int) ≤ (j : Int) := by omega
      have v43_g := (show 0 ≤ y38_.getD j 0 ∧ y38_.getD j 0 ≤ 12 from by rw [← Hy38_.out]; exact bid_rg HBO.out _ _)
      obtain ⟨v43_, hv43_⟩ : ∃ v, v = y38_.getD j 0 := ⟨_, rfl⟩
      rw [← hv43_] at c42_ v43_g
      have Hv43_ := Lib.hid hv43_
      clear hv43_
      obtain ⟨v43_g1, v43_g2⟩ := v43_g
      have hw44_ : IntKind.i64.wrap (48 * v43_) = (48 * v43_) := IntWalk.i64_in _ (by omega)
      have hw45_ : IntKind.i64.wrap (v31_ + (48 * v43_)) = (v31_ + (48 * v43_)) := IntWalk.i64_in _ (by omega)
      have c46_ := G18_.at_ x29_ (by rw [fnRow_length]; omega)
      have c46_f := G18_.soft x29_ (by rw [fnRow_length]; omega)
      clear c46_
      have c46_i : (x29_ : Int) < (B.length : Int) := by omega
      have c46_j : (0 : Int) ≤ (x29_ : Int) := by omega
      have hw49_ : IntKind.i64.wrap (48 * v43_) = (48 * v43_) := IntWalk.i64_in _ (by omega)
      have hw50_ : IntKind.i64.wrap (v31_ + (48 * v43_)) = (v31_ + (48 * v43_)) := IntWalk.i64_in _ (by omega)
      go_wp2_with fail
      go_region
      obtain ⟨w48, hw48⟩ : ∃ x, x = ((w17.setCell ⟨w.heap.size, x29_, none⟩ (.int .i64 (v31_ + (48 * v43_)))).drew) := ⟨_, rfl⟩
      rw [← hw48]
      have hC47_ : Chg w.heap.size (w.heap.size + 1) w17 w48 := by rw [hw48]; exact (Chg.setCell (lo := w.heap.size) (hi := w.heap.size + 1) w17 (p := ⟨w.heap.size, x29_, none⟩) ⟨Nat.le_refl _, Nat.lt_succ_self _⟩ (.int .i64 (v31_ + (48 * v43_)))).drewR
      have G51_ : Grow w48 w.heap.size B.length ((fnRow B.length (takesTo B j)).set x29_ (v31_ + (48 * v43_))) := by rw [hw48]; exact (G18_.store x29_ (v31_ + (48 * v43_))).drew
      clear hw48
      have o52_ := k21_.chg hC47_ (by first | omega | (simp; omega) | simp) (by omega)
      have o53_ := k22_.chg hC47_ (by first | omega | (simp; omega) | simp) (by omega)
      have o54_ := F37_.chg hC47_ (by first | omega | (simp; omega) | simp) (by omega)
      have z55_ := hC47_.size
      have B56_ := k19_.trans (hC47_.below (by omega) (by first | omega | (simp; omega) | simp))
      clear hC47_
      have HL57_ : Hid (((fnRow B.length (takesTo B j)).set x29_ (v31_ + (48 * v43_))).length = B.length) := by show _ = _; rw [List.length_set]; first | rfl | omega | exact HL23_.out
      go_wp2
      go_roundw
      case rel => exact ⟨j + 1, by go_num, by omega, (by rw [takes_set (x := x29_) (o := v31_) (b := v43_) (best_of HBO.out (by omega) (by rw [← Hv28_.out]; exact Hx29_.out)) Hv31_.out (by unfold bid; rw [Hy38_.out]; exact Hv43_.out) (by omega)]; exact G51_), B56_, (by first | omega | (simp; omega) | simp), o52_, o53_⟩
      case measure => simp [intOf] <;> omega
    · have hje : j ≤ things B := by omega
      have hjf : things B ≤ j := by omega
      have hfin : fnRow B.length (takes B) = fnRow B.length (takesTo B j) := by rw [show j = things B from by omega]; rfl
      have HFIN := Lib.hid hfin
      clear hfin
      go_wp2
      go_ret
      rw [HFIN.out]
      (refine retInts_grow G18_ (by omega) ?_ k19_; rw [fnRow_length])

set_option maxRecDepth 10000 in
set_option maxHeartbeats 2000000 in
theorem specSurplusOf_yes (A : Option Addr) (c : Nat) (B : List (List Int)) (w : World) (lo hi : Nat) (h : Grid w lo hi A B) (hh : hi ≤ w.heap.size) (hl : B.length ≤ 1152921504606846976) (hb : bidB B = true) :
    Calls Try.prog 30 #[.slice A B.length c] w fun e w' => e = .returned (.int .i64 (surplusV B)) ∧ Below w.heap.size w w' := by
  have HBO := Lib.hid hb
  have hbd := bidB_bd hb
  obtain ⟨hB2, hB4, hT4⟩ := hbd
  clear hb
  go_enter Try.func30, Try.ntmps30
  go_wp2_with fail
  refine (specBidsOk_any A c B _ _ _ h (by first | omega | (simp; omega) | simp) hl).mono ?_
  rintro e w1 ⟨he, hb1_⟩
  rw [HBO.out] at he
  subst he
  have o2_ := h.below hb1_ (by first | omega | (simp; omega) | simp)
  have z3_ := hb1_.size
  have B4_ := (Below.refl w.heap.size w).trans (hb1_.mono (by first | omega | (simp; omega) | simp))
  clear hb1_
  go_wp2_with fail
  refine (specTakes_yes A c B _ _ _ o2_ (by first | omega | (simp; omega) | simp) hl HBO.out).mono ?_
  rintro e w5 ⟨A6_, c7_, rfl, ho8_, hb5_⟩
  have o9_ := o2_.below hb5_ (by first | omega | (simp; omega) | simp)
  have z10_ := hb5_.size
  have B11_ := B4_.trans (hb5_.mono (by first | omega | (simp; omega) | simp))
  clear hb5_
  go_wp2_with fail
  refine (l1Sum_any A6_ c7_ (fnRow B.length (takes B)) _ _ _ ho8_.ints (takes_small HBO.out)).mono ?_
  rintro e w' ⟨he, rfl⟩
  obtain ⟨v12_, hv12_⟩ : ∃ v, (fnRow B.length (takes B)).sum = v := ⟨_, rfl⟩
  rw [hv12_] at he
  subst he
  have v12_g := takes_sum_rg HBO.out
  rw [hv12_] at v12_g
  obtain ⟨v12_g1, v12_g2⟩ := v12_g
  have Hv12_ := Lib.hid hv12_
  clear hv12_
  go_wp2_with fail
  refine (specFairRow_any A c B _ _ _ o9_ (by first | omega | (simp; omega) | simp) hl).mono ?_
  rintro e w13 ⟨A14_, c15_, rfl, ho16_, hb13_⟩
  have o17_ := o9_.below hb13_ (by first | omega | (simp; omega) | simp)
  have o18_ := ho8_.below hb13_ (by first | omega | (simp; omega) | simp)
  have z19_ := hb13_.size
  have B20_ := B11_.trans (hb13_.mono (by first | omega | (simp; omega) | simp))
  clear hb13_
  go_wp2_with fail
  refine (l1Sum_any A14_ c15_ (fairRow B) _ _ _ ho16_.ints (fair_small HBO.out)).mono ?_
  rintro e w' ⟨he, rfl⟩
  obtain ⟨v21_, hv21_⟩ : ∃ v, (fairRow B).sum = v := ⟨_, rfl⟩
  rw [hv21_] at he
  subst he
  have v21_g := fair_sum_rg HBO.out
  rw [hv21_] at v21_g
  obtain ⟨v21_g1, v21_g2⟩ := v21_g
  have Hv21_ := Lib.hid hv21_
  clear hv21_
  have hfin : v12_ - v21_ = surplusV B := by rw [surplus_is HBO.out, Hv12_.out, Hv21_.out]
  have HFIN := Lib.hid hfin
  clear hfin
  go_wp2
  go_ret
  exact ⟨ret_int HFIN.out, B20_⟩

set_option maxRecDepth 10000 in
set_option maxHeartbeats 2000000 in
theorem specSurplusOf_no (A : Option Addr) (c : Nat) (B : List (List Int)) (w : World) (lo hi : Nat) (h : Grid w lo hi A B) (hh : hi ≤ w.heap.size) (hl : B.length ≤ 1152921504606846976) (hb : bidB B = false) :
    Calls Try.prog 30 #[.slice A B.length c] w fun e w' => e = .returned (.int .i64 (surplusV B)) ∧ Below w.heap.size w w' := by
  have HBO := Lib.hid hb
  clear hb
  go_enter Try.func30, Try.ntmps30
  go_wp2_with fail
  refine (specBidsOk_any A c B _ _ _ h (by first | omega | (simp; omega) | simp) hl).mono ?_
  rintro e w1 ⟨he, hb1_⟩
  rw [HBO.out] at he
  subst he
  have o2_ := h.below hb1_ (by first | omega | (simp; omega) | simp)
  have z3_ := hb1_.size
  have B4_ := (Below.refl w.heap.size w).trans (hb1_.mono (by first | omega | (simp; omega) | simp))
  clear hb1_
  go_wp2
  go_ret
  exact ⟨ret_int (by rw [surplusV, if_neg (by rw [HBO.out]; simp)]), B4_⟩

theorem specSurplusOf_any (A : Option Addr) (c : Nat) (B : List (List Int)) (w : World) (lo hi : Nat) (h : Grid w lo hi A B) (hh : hi ≤ w.heap.size) (hl : B.length ≤ 1152921504606846976) :
    Calls Try.prog 30 #[.slice A B.length c] w (fun e w' => e = .returned (.int .i64 (surplusV B)) ∧ Below w.heap.size w w') := by
  by_cases hb : bidB B = true
  · exact specSurplusOf_yes A c B w lo hi h hh hl hb
  · exact specSurplusOf_no A c B w lo hi h hh hl (by simpa using hb)

theorem specFair_in {B : List (List Int)} (hb : bidB B = true) (A : Option Addr) (c : Nat) (w : World) (lo hi : Nat) (h : Grid w lo hi A B) (hh : hi ≤ w.heap.size) (hl : B.length ≤ 1152921504606846976) :
    Calls Try.prog 26 #[.slice A B.length c] w (RetInts w (fnRow B.length (fair B))) := by
  have e := specFairRow_any A c B w lo hi h hh hl
  rwa [fairRow_yes hb] at e

set_option maxRecDepth 10000 in
set_option maxHeartbeats 2000000 in
theorem specPaidRow_yes (A : Option Addr) (c : Nat) (B : List (List Int)) (w : World) (lo hi : Nat) (h : Grid w lo hi A B) (hh : hi ≤ w.heap.size) (hl : B.length ≤ 1152921504606846976) (hb : bidB B = true) :
    Calls Try.prog 33 #[.slice A B.length c] w (RetInts w (paidRow B)) := by
  have HBO := Lib.hid hb
  have hbd := bidB_bd hb
  obtain ⟨hB2, hB4, hT4⟩ := hbd
  clear hb
  go_enter Try.func33, Try.ntmps33
  have o1_ := h.alloc (by first | omega | (simp; omega) | simp) (.cells #[] 3)
  have B2_ := (Below.refl w.heap.size w).alloc (Nat.le_refl _) (.cells #[] 3)
  have G3_ : Grow (w.alloc (.cells #[] 3)) (w.heap.size) 0 ([] : List Int) := by have e := grow_lit w ([] : List Int) (by simp); (try simp only [hsz] at e); exact e
  have l4_ := G3_.lt
  have HL5_ : Hid (([] : List Int).length = 0) := rfl
  go_wp2_with fail
  refine (specBidsOk_any A c B _ _ _ o1_ (by first | omega | (simp; omega) | simp) hl).mono ?_
  rintro e w6 ⟨he, hb6_⟩
  rw [HBO.out] at he
  subst he
  have o7_ := o1_.below hb6_ (by first | omega | (simp; omega) | simp)
  have o8_ := G3_.below hb6_ (by first | omega | (simp; omega) | simp)
  have z9_ := hb6_.size
  try simp at z9_
  have B10_ := B2_.trans (hb6_.mono (by first | omega | (simp; omega) | simp))
  clear hb6_
  go_wp2_with fail
  refine (specTakes_yes A c B _ _ _ o7_ (by first | omega | (simp; omega) | simp) hl HBO.out).mono ?_
  rintro e w11 ⟨A12_, c13_, rfl, ho14_, hb11_⟩
  have o15_ := o7_.below hb11_ (by first | omega | (simp; omega) | simp)
  have o16_ := o8_.below hb11_ (by first | omega | (simp; omega) | simp)
  have z17_ := hb11_.size
  have B18_ := B10_.trans (hb11_.mono (by first | omega | (simp; omega) | simp))
  clear hb11_
  have hl9rta : B.length ≤ (fnRow B.length (takes B)).length := by rw [fnRow_length]; exact Nat.le_refl _
  have hl9rtb : (fnRow B.length (takes B)).length ≤ B.length := by rw [fnRow_length]; exact Nat.le_refl _
  go_wp2_with fail
  refine (specFair_in HBO.out A c _ _ _ o15_ (by first | omega | (simp; omega) | simp) hl).mono ?_
  rintro e w19 ⟨A20_, c21_, rfl, ho22_, hb19_⟩
  have o23_ := o15_.below hb19_ (by first | omega | (simp; omega) | simp)
  have o24_ := o16_.below hb19_ (by first | omega | (simp; omega) | simp)
  have o25_ := ho14_.below hb19_ (by first | omega | (simp; omega) | simp)
  have z26_ := hb19_.size
  have B27_ := B18_.trans (hb19_.mono (by first | omega | (simp; omega) | simp))
  clear hb19_
  have hl9rfa : B.length ≤ (fnRow B.length (fair B)).length := by rw [fnRow_length]; exact Nat.le_refl _
  have hl9rfb : (fnRow B.length (fair B)).length ≤ B.length := by rw [fnRow_length]; exact Nat.le_refl _
  go_wp2
  go_loopw [6, 3] (fun i v wr => ∃ k : Nat, ∃ g cg : Nat, i = .int .i64 k ∧ v = .slice (some ⟨g, 0, none⟩) k cg ∧ (k ≤ B.length) ∧ (g = w.heap.size ∨ w19.heap.size ≤ g) ∧ w.heap.size ≤ g ∧ Grow wr g cg (fnRow k (paid B)) ∧ Below w.heap.size w wr ∧ w19.heap.size ≤ wr.heap.size ∧ Grid wr (lo) (hi) A B ∧ Own wr (w6.heap.size) (w11.heap.size) A12_ (fnRow B.length (takes B)) ∧ Own wr (w11.heap.size) (w19.heap.size) A20_ (fnRow B.length (fair B))) (fun i v _ => B.length - (intOf i).toNat)
  case atStart => exact ⟨0, w.heap.size, 0, rfl, (slice_n (by first | rfl | omega | simp)), by omega, Or.inl rfl, (by omega), (by show Grow _ _ _ []; exact o24_), B27_, (by first | omega | (simp; omega) | simp), o23_, o25_, ho22_⟩
  case round =>
    obtain ⟨k, g, cg, rfl, rfl, hk, hga, glb, G29_, k30_, k31_, k32_, k33_, k34_⟩ := hrel
    obtain ⟨w28, rfl⟩ : ∃ x, x = wr := ⟨_, rfl⟩
    have HL35_ : Hid ((fnRow k (paid B)).length = k) := fnRow_length _ _
    have l36_ := G29_.lt
    by_cases hlt0 : k < B.length
    · obtain ⟨b37_, f38_, rfl, b37_l, b37_h, -⟩ := k34_.ints (by rw [fnRow_length]; omega)
      have c39_ : w28.cell? ⟨b37_, f38_ + k, none⟩ = some (.int .i64 ((fnRow B.length (fair B)).getD k 0)) := k34_.ints.at2 k (by rw [fnRow_length]; omega)
      have c39_i : (k : Int) < ((fnRow B.length (fair B)).length : Int) := by omega
      have c39_j : (0 : Int) ≤ (k : Int) := by omega
      have v40_g := fair_rg HBO.out k
      obtain ⟨v40_, hv40_⟩ : ∃ v, v = (fnRow B.length (fair B)).getD k 0 := ⟨_, rfl⟩
      rw [← hv40_] at c39_ v40_g
      have Hv40_ := Lib.hid hv40_
      clear hv40_
      obtain ⟨v40_g1, v40_g2⟩ := v40_g
      obtain ⟨b41_, f42_, rfl, b41_l, b41_h, -⟩ := k33_.ints (by rw [fnRow_length]; omega)
      have c43_ : w28.cell? ⟨b41_, f42_ + k, none⟩ = some (.int .i64 ((fnRow B.length (takes B)).getD k 0)) := k33_.ints.at2 k (by rw [fnRow_length]; omega)
      have c43_i : (k : Int) < ((fnRow B.length (takes B)).length : Int) := by omega
      have c43_j : (0 : Int) ≤ (k : Int) := by omega
      have v44_g := takes_rg HBO.out k
      obtain ⟨v44_, hv44_⟩ : ∃ v, v = (fnRow B.length (takes B)).getD k 0 := ⟨_, rfl⟩
      rw [← hv44_] at c43_ v44_g
      have Hv44_ := Lib.hid hv44_
      clear hv44_
      obtain ⟨v44_g1, v44_g2⟩ := v44_g
      obtain ⟨P45_, hP45_⟩ : ∃ P, (B.length : Int) * (v40_ - v44_) = P := ⟨_, rfl⟩
      have bP45_ := len_mul_rg hB4 (show -20000 ≤ (v40_ - v44_) by omega) (show (v40_ - v44_) ≤ 20000 by omega)
      rw [hP45_] at bP45_
      obtain ⟨bP45_, bP45_'⟩ := bP45_
      have wP45_ : IntKind.i64.wrap P45_ = P45_ := IntWalk.i64_in _ (by omega)
      obtain ⟨v46_, hv46_⟩ : ∃ v, surplusV B = v := ⟨_, rfl⟩
      have v46_g := surplusV_rg B
      rw [hv46_] at v46_g
      obtain ⟨v46_g1, v46_g2⟩ := v46_g
      have Hv46_ := Lib.hid hv46_
      clear hv46_
      have HL49_ : Hid (([(P45_ + v46_)] : List Int).length = 1) := rfl
      have HL53_ : Hid (((fnRow k (paid B)) ++ ([(P45_ + v46_)] : List Int)).length = k + 1) := by show _ = _; rw [List.length_append, HL35_.out, HL49_.out]
      have hw54_ : IntKind.i64.wrap (v40_ - v44_) = (v40_ - v44_) := IntWalk.i64_in _ (by omega)
      have hw55_ : IntKind.i64.wrap P45_ = P45_ := IntWalk.i64_in _ (by omega)
      have hw56_ : IntKind.i64.wrap (P45_ + v46_) = (P45_ + v46_) := IntWalk.i64_in _ (by omega)
      have g62_ : hi ≤ w28.heap.size := (by first | omega | (simp; omega) | simp)
      have g63_ : w11.heap.size ≤ w28.heap.size := (by first | omega | (simp; omega) | simp)
      have g64_ : w19.heap.size ≤ w28.heap.size := (by first | omega | (simp; omega) | simp)
      have g65_ : g + 1 ≤ w28.heap.size := (by first | omega | (simp; omega) | simp)
      have g66_ : b41_ < w28.heap.size := (by first | omega | (simp; omega) | simp)
      have g67_ : b37_ < w28.heap.size := (by first | omega | (simp; omega) | simp)
      have g68_ : w.heap.size ≤ w28.heap.size := (by first | omega | (simp; omega) | simp)
      go_wp2_with fail
      refine wp_region_held_drew (S := (fun w' : World => Below w.heap.size w w' ∧ w28.heap.size ≤ w'.heap.size ∧ Grid w' (lo) (hi) A B ∧ Own w' (w6.heap.size) (w11.heap.size) (some ⟨b41_, f42_, none⟩) (fnRow B.length (takes B)) ∧ Own w' (w11.heap.size) (w19.heap.size) (some ⟨b37_, f38_, none⟩) (fnRow B.length (fair B)) ∧ w'.cell? ⟨b41_, f42_ + k, none⟩ = some (.int .i64 v44_) ∧ w'.cell? ⟨b37_, f38_ + k, none⟩ = some (.int .i64 v40_) ∧ w28.heap.size ≤ w'.heap.size)) (by kernel_rfl) ⟨k30_.drew, by exact (by first | omega | (simp; omega) | simp), k32_, k33_, k34_, c43_, c39_, Nat.le_refl _⟩ (fun hHeld => ?_)
      have o69_ : Grow w28.drew g cg (fnRow k (paid B)) := G29_
      refine wpAnyH_take (i := 0) (oi := ?oi1) (v := ?vv1) ?hi1 ?hs1 ?hf1 ?ha1 ?hq1 ?hy1 hHeld ?hr1
      case hi1 => (simp only [List.getElem?_toArray, List.getElem?_cons_zero]; exact rfl)
      case hs1 => kernel_rfl
      case hf1 => kernel_rfl
      case ha1 => kernel_rfl
      case hq1 => exact fun _ _ _ h => h
      case hy1 =>
        refine Or.inl ⟨by rfl, ?_⟩
        intro w' hSw
        try dsimp only at hSw
        go_simp
        first | done | with_reducible rfl
      simp only [Act.put, List.setIfInBounds_toArray, List.set_cons_succ, List.set_cons_zero]
      refine wpAnyH_take (i := 1) (oi := ?oi2) (v := ?vv2) ?hi2 ?hs2 ?hf2 ?ha2 ?hq2 ?hy2 hHeld ?hr2
      case hi2 => (simp only [List.getElem?_toArray, List.getElem?_cons_succ, List.getElem?_cons_zero]; exact rfl)
      case hs2 => kernel_rfl
      case hf2 => kernel_rfl
      case ha2 => kernel_rfl
      case hq2 => exact fun _ _ _ h => h
      case hy2 =>
        refine Or.inl ⟨by rfl, ?_⟩
        intro w' hSw
        try dsimp only at hSw
        go_simp
        first | done | with_reducible rfl
      simp only [Act.put, List.setIfInBounds_toArray, List.set_cons_succ, List.set_cons_zero]
      refine wpAnyH_take (i := 2) (oi := ?oi3) (v := ?vv3) ?hi3 ?hs3 ?hf3 ?ha3 ?hq3 ?hy3 hHeld ?hr3
      case hi3 => (simp only [List.getElem?_toArray, List.getElem?_cons_succ, List.getElem?_cons_zero]; exact rfl)
      case hs3 => kernel_rfl
      case hf3 => kernel_rfl
      case ha3 => kernel_rfl
      case hq3 => exact fun _ _ _ h => h
      case hy3 =>
        refine Or.inl ⟨by rfl, ?_⟩
        intro w' hSw
        try dsimp only at hSw
        go_simp
        first | done | with_reducible rfl
      simp only [Act.put, List.setIfInBounds_toArray, List.set_cons_succ, List.set_cons_zero]
      refine wpAnyH_take (i := 3) (oi := ?oi4) (v := ?vv4) ?hi4 ?hs4 ?hf4 ?ha4 ?hq4 ?hy4 hHeld ?hr4
      case hi4 => (simp only [List.getElem?_toArray, List.getElem?_cons_succ, List.getElem?_cons_zero]; exact rfl)
      case hs4 => kernel_rfl
      case hf4 => kernel_rfl
      case ha4 => kernel_rfl
      case hq4 => exact fun _ _ _ h => h
      case hy4 =>
        refine Or.inl ⟨by rfl, ?_⟩
        intro w' hSw
        try dsimp only at hSw
        go_simp
        first | done | with_reducible rfl
      simp only [Act.put, List.setIfInBounds_toArray, List.set_cons_succ, List.set_cons_zero]
      refine wpAnyH_take (i := 4) (oi := ?oi5) (v := ?vv5) ?hi5 ?hs5 ?hf5 ?ha5 ?hq5 ?hy5 hHeld ?hr5
      case hi5 => (simp only [List.getElem?_toArray, List.getElem?_cons_succ, List.getElem?_cons_zero]; exact rfl)
      case hs5 => kernel_rfl
      case hf5 => kernel_rfl
      case ha5 => kernel_rfl
      case hq5 => exact fun _ _ _ h => h
      case hy5 =>
        refine Or.inl ⟨by rfl, ?_⟩
        intro w' hSw
        try dsimp only at hSw
        go_simp
        first | done | with_reducible rfl
      simp only [Act.put, List.setIfInBounds_toArray, List.set_cons_succ, List.set_cons_zero]
      refine wpAnyH_take (i := 5) (oi := ?oi6) (v := ?vv6) ?hi6 ?hs6 ?hf6 ?ha6 ?hq6 ?hy6 hHeld ?hr6
      case hi6 => (simp only [List.getElem?_toArray, List.getElem?_cons_succ, List.getElem?_cons_zero]; exact rfl)
      case hs6 => kernel_rfl
      case hf6 => kernel_rfl
      case ha6 => kernel_rfl
      case hq6 => exact fun _ _ _ h => h
      case hy6 =>
        refine Or.inl ⟨by rfl, ?_⟩
        intro w' hSw
        try dsimp only at hSw
        go_simp
        first | done | with_reducible rfl
      simp only [Act.put, List.setIfInBounds_toArray, List.set_cons_succ, List.set_cons_zero]
      refine wpAnyH_take (i := 6) (oi := ?oi7) (v := ?vv7) ?hi7 ?hs7 ?hf7 ?ha7 ?hq7 ?hy7 hHeld ?hr7
      case hi7 => (simp only [List.getElem?_toArray, List.getElem?_cons_succ, List.getElem?_cons_zero]; exact rfl)
      case hs7 => kernel_rfl
      case hf7 => kernel_rfl
      case ha7 => kernel_rfl
      case hq7 => exact fun _ _ _ h => h
      case hy7 =>
        refine Or.inl ⟨by rfl, ?_⟩
        intro w' hSw
        try dsimp only at hSw
        go_simp
        first | done | with_reducible rfl
      simp only [Act.put, List.setIfInBounds_toArray, List.set_cons_succ, List.set_cons_zero]
      refine wpAnyH_take (i := 7) (oi := ?oi8) (v := ?vv8) ?hi8 ?hs8 ?hf8 ?ha8 ?hq8 ?hy8 hHeld ?hr8
      case hi8 => (simp only [List.getElem?_toArray, List.getElem?_cons_succ, List.getElem?_cons_zero]; exact rfl)
      case hs8 => kernel_rfl
      case hf8 => kernel_rfl
      case ha8 => kernel_rfl
      case hq8 => exact fun _ _ _ h => h
      case hy8 =>
        refine Or.inl ⟨by rfl, ?_⟩
        intro w' hSw
        try dsimp only at hSw
        go_simp
        first | done | with_reducible rfl
      simp only [Act.put, List.setIfInBounds_toArray, List.set_cons_succ, List.set_cons_zero]
      refine wpAnyH_take (i := 8) (oi := ?oi9) (v := ?vv9) ?hi9 ?hs9 ?hf9 ?ha9 ?hq9 ?hy9 hHeld ?hr9
      case hi9 => (simp only [List.getElem?_toArray, List.getElem?_cons_succ, List.getElem?_cons_zero]; exact rfl)
      case hs9 => kernel_rfl
      case hf9 => kernel_rfl
      case ha9 => kernel_rfl
      case hq9 => exact fun _ _ _ h => h
      case hy9 =>
        refine Or.inl ⟨by rfl, ?_⟩
        intro w' hSw
        try dsimp only at hSw
        go_simp
        first | done | with_reducible rfl
      simp only [Act.put, List.setIfInBounds_toArray, List.set_cons_succ, List.set_cons_zero]
      refine wpAnyH_take (i := 9) (oi := ?oi10) (v := ?vv10) ?hi10 ?hs10 ?hf10 ?ha10 ?hq10 ?hy10 hHeld ?hr10
      case hi10 => (simp only [List.getElem?_toArray, List.getElem?_cons_succ, List.getElem?_cons_zero]; exact rfl)
      case hs10 => kernel_rfl
      case hf10 => kernel_rfl
      case ha10 => kernel_rfl
      case hq10 => exact fun _ _ _ h => h
      case hy10 =>
        refine Or.inl ⟨by rfl, ?_⟩
        intro w' hSw
        try dsimp only at hSw
        go_simp
        first | done | with_reducible rfl
      simp only [Act.put, List.setIfInBounds_toArray, List.set_cons_succ, List.set_cons_zero]
      refine wpAnyH_take (i := 10) (oi := ?oi11) (v := ?vv11) ?hi11 ?hs11 ?hf11 ?ha11 ?hq11 ?hy11 hHeld ?hr11
      case hi11 => (simp only [List.getElem?_toArray, List.getElem?_cons_succ, List.getElem?_cons_zero]; exact rfl)
      case hs11 => kernel_rfl
      case hf11 => kernel_rfl
      case ha11 => kernel_rfl
      case hq11 => exact fun _ _ _ h => h
      case hy11 =>
        refine Or.inl ⟨by rfl, ?_⟩
        intro w' hSw
        try dsimp only at hSw
        go_simp
        first | done | with_reducible rfl
      simp only [Act.put, List.setIfInBounds_toArray, List.set_cons_succ, List.set_cons_zero]
      refine wpAnyH_take (i := 11) (oi := ?oi12) (v := ?vv12) ?hi12 ?hs12 ?hf12 ?ha12 ?hq12 ?hy12 hHeld ?hr12
      case hi12 => (simp only [List.getElem?_toArray, List.getElem?_cons_succ, List.getElem?_cons_zero]; exact rfl)
      case hs12 => kernel_rfl
      case hf12 => kernel_rfl
      case ha12 => kernel_rfl
      case hq12 => exact fun _ _ _ h => h
      case hy12 =>
        refine Or.inl ⟨by rfl, ?_⟩
        intro w' hSw
        try dsimp only at hSw
        go_simp
        first | done | with_reducible rfl
      simp only [Act.put, List.setIfInBounds_toArray, List.set_cons_succ, List.set_cons_zero]
      refine wpAnyH_take (i := 12) (oi := ?oi13) (v := ?vv13) ?hi13 ?hs13 ?hf13 ?ha13 ?hq13 ?hy13 hHeld ?hr13
      case hi13 => (simp only [List.getElem?_toArray, List.getElem?_cons_succ, List.getElem?_cons_zero]; exact rfl)
      case hs13 => kernel_rfl
      case hf13 => kernel_rfl
      case ha13 => kernel_rfl
      case hq13 => exact fun _ _ _ h => h
      case hy13 =>
        refine Or.inl ⟨by rfl, ?_⟩
        intro w' hSw
        try dsimp only at hSw
        go_simp
        first | done | with_reducible rfl
      simp only [Act.put, List.setIfInBounds_toArray, List.set_cons_succ, List.set_cons_zero]
      refine wpAnyH_take (i := 13) (oi := ?oi14) (v := ?vv14) ?hi14 ?hs14 ?hf14 ?ha14 ?hq14 ?hy14 hHeld ?hr14
      case hi14 => (simp only [List.getElem?_toArray, List.getElem?_cons_succ, List.getElem?_cons_zero]; exact rfl)
      case hs14 => kernel_rfl
      case hf14 => kernel_rfl
      case ha14 => kernel_rfl
      case hq14 => exact fun _ _ _ h => h
      case hy14 =>
        refine Or.inl ⟨by rfl, ?_⟩
        intro w' hSw
        try dsimp only at hSw
        go_simp
        first | done | with_reducible rfl
      simp only [Act.put, List.setIfInBounds_toArray, List.set_cons_succ, List.set_cons_zero]
      refine wpAnyH_ready (rs := [14]) (by kernel_rfl) (by simp) ?_
      refine AllReadyH.cons rfl (fun K hK => ?_) AllReadyH.nil
      go_simp
      go_at_call 30
      obtain ⟨BB, zz, k57_, k58_, k59_, q60_, q61_, zw⟩ := hHeld
      (with_reducible refine (below_is (specSurplusOf_any A c B _ _ _ k57_ (by first | omega | (simp; omega) | simp) hl) (congrArg (Value.int .i64) Hv46_.out)).mono ?_)
      rintro e w70 ⟨rfl, hb9⟩
      have o71_ := o69_.below hb9 (by first | omega | (simp; omega) | simp)
      refine hK.out _ _ ⟨BB.trans (hb9.mono (by omega)), Nat.le_trans zz hb9.size, k57_.below hb9 (by first | omega | (simp; omega) | simp), k58_.below hb9 (by first | omega | (simp; omega) | simp), k59_.below hb9 (by first | omega | (simp; omega) | simp), (hb9.cell (by show b41_ < _; omega)).trans q60_, (hb9.cell (by show b37_ < _; omega)).trans q61_, Nat.le_trans zw hb9.size⟩ (fun hHeld => ?_)
      clear hb9 zw q61_ q60_ k59_ k58_ k57_ zz BB
      clear hK K
      try simp only [Act.put, List.setIfInBounds_toArray, List.set_cons_zero, List.set_cons_succ]
      refine wpAnyH_take (i := 15) (oi := ?oi15) (v := ?vv15) ?hi15 ?hs15 ?hf15 ?ha15 ?hq15 ?hy15 hHeld ?hr15
      case hi15 => (simp only [List.getElem?_toArray, List.getElem?_cons_succ, List.getElem?_cons_zero]; exact rfl)
      case hs15 => kernel_rfl
      case hf15 => kernel_rfl
      case ha15 => kernel_rfl
      case hq15 => exact fun _ _ _ h => h
      case hy15 =>
        refine Or.inl ⟨by rfl, ?_⟩
        intro w' hSw
        try dsimp only at hSw
        go_simp
        first | done | with_reducible rfl
      simp only [Act.put, List.setIfInBounds_toArray, List.set_cons_succ, List.set_cons_zero]
      refine wpAnyH_ready (rs := [16]) (by kernel_rfl) (by simp) ?_
      refine AllReadyH.cons rfl (fun K hK => ?_) AllReadyH.nil
      obtain ⟨BB, zz, k57_, k58_, k59_, q60_, q61_, zw⟩ := hHeld
      go_simp
      have G48_ : Grow (w70.alloc (.cells #[.int .i64 (P45_ + v46_)] 3)) (w70.heap.size) 1 ([(P45_ + v46_)] : List Int) := grow_lit w70 ([(P45_ + v46_)] : List Int) (by simp)
      have hb9 : Below w70.heap.size w70 (w70.alloc (.cells #[.int .i64 (P45_ + v46_)] 3)) := (Below.refl _ w70).alloc (Nat.le_refl _) (.cells #[.int .i64 (P45_ + v46_)] 3)
      obtain ⟨g47_, hg47_⟩ : ∃ g, w70.heap.size = g := ⟨_, rfl⟩
      rw [hg47_] at G48_
      simp only [hg47_]
      have lg47_ : w.heap.size ≤ g47_ := by omega
      have lWg47_ : w28.heap.size ≤ g47_ := by omega
      have leg47_ : g47_ ≤ w70.heap.size := by omega
      have geg47_ : w70.heap.size ≤ g47_ := by omega
      obtain ⟨w72, hw72⟩ : ∃ x, x = (w70.alloc (.cells #[.int .i64 (P45_ + v46_)] 3)) := ⟨_, rfl⟩
      rw [← hw72] at G48_ hb9
      rw [← hw72]
      clear hw72 hg47_
      have l73_ := G48_.lt
      have o74_ := o71_.below hb9 (by first | omega | (simp; omega) | simp)
      refine hK.out _ _ ⟨BB.trans (hb9.mono (by omega)), Nat.le_trans zz hb9.size, k57_.below hb9 (by first | omega | (simp; omega) | simp), k58_.below hb9 (by first | omega | (simp; omega) | simp), k59_.below hb9 (by first | omega | (simp; omega) | simp), (hb9.cell (by show b41_ < _; omega)).trans q60_, (hb9.cell (by show b37_ < _; omega)).trans q61_, Nat.le_trans zw hb9.size⟩ (fun hHeld => ?_)
      clear hb9 zw q61_ q60_ k59_ k58_ k57_ zz BB
      clear hK K
      try simp only [Act.put, List.setIfInBounds_toArray, List.set_cons_zero, List.set_cons_succ]
      refine wpAnyH_ready (rs := [17]) (by kernel_rfl) (by simp) ?_
      refine AllReadyH.cons (o := ?ox16) ?hx16 (fun K hK => ?_) AllReadyH.nil
      case hx16 => (simp only [List.getElem?_toArray, List.getElem?_cons_succ, List.getElem?_cons_zero]; exact rfl)
      obtain ⟨BB, zz, k57_, k58_, k59_, q60_, q61_, zw⟩ := hHeld
      refine step_gr (by rfl) _ _ (by rfl) (xs := (fnRow k (paid B))) (ys := ([(P45_ + v46_)] : List Int)) (by rfl) (by have e := HL35_.out; omega) o74_ (by rfl) (by have e := HL49_.out; omega) (G48_.ints.read) (by omega) ?_
      intro g50_ c51_ w75 G52_ hC76_ hg50_
      have lg50_ : w.heap.size ≤ g50_ := by omega
      have lSg50_ : g50_ = g ∨ w28.heap.size ≤ g50_ := by omega
      have l77_ := G52_.lt
      have l78_ := hC76_.size
      have G48_ := G48_.chg hC76_ (by omega)
      refine hK.out _ _ ⟨BB.trans (hC76_.below (by omega) (by omega)), Nat.le_trans zz hC76_.size, k57_.chg hC76_ (by first | omega | (simp; omega) | simp) (by omega), k58_.chg hC76_ (by first | omega | (simp; omega) | simp) (by omega), k59_.chg hC76_ (by first | omega | (simp; omega) | simp) (by omega), (hC76_.cell (by show b41_ < _; omega) (by first | omega | (simp; omega) | simp)).trans q60_, (hC76_.cell (by show b37_ < _; omega) (by first | omega | (simp; omega) | simp)).trans q61_, Nat.le_trans zw hC76_.size⟩ (fun hHeld => ?_)
      clear hC76_ zw q61_ q60_ k59_ k58_ k57_ zz BB
      clear hK K
      try simp only [Act.put, List.setIfInBounds_toArray, List.set_cons_zero, List.set_cons_succ]
      refine wpAnyH_take (i := 18) (oi := ?oi17) (v := ?vv17) ?hi17 ?hs17 ?hf17 ?ha17 ?hq17 ?hy17 hHeld ?hr17
      case hi17 => (simp only [List.getElem?_toArray, List.getElem?_cons_succ, List.getElem?_cons_zero]; exact rfl)
      case hs17 => kernel_rfl
      case hf17 => kernel_rfl
      case ha17 => kernel_rfl
      case hq17 => exact fun _ _ _ h => h
      case hy17 =>
        refine Or.inl ⟨by rfl, ?_⟩
        intro w' hSw
        try dsimp only at hSw
        go_simp
        first | done | with_reducible rfl
      simp only [Act.put, List.setIfInBounds_toArray, List.set_cons_succ, List.set_cons_zero]
      refine wpAnyH_done (by kernel_rfl) ?_ _
      obtain ⟨BB, zz, k57_, k58_, k59_, q60_, q61_, zw⟩ := hHeld
      clear hw54_ hw55_ hw56_
      have k79_ := BB
      clear BB
      have k80_ := zz
      clear zz
      have k81_ := zw
      clear zw
      go_wp2
      go_roundw
      case rel => exact ⟨k + 1, g50_, c51_, by go_num, (slice_n (by first | rfl | omega | simp)), by omega, by omega, (by omega), (by rw [fnRow_succ, show paid B k = P45_ + v46_ from by unfold paid; rw [← hP45_, ← Hv46_.out, Hv40_.out, Hv44_.out, fnRow_getD _ (by omega), fnRow_getD _ (by omega), surplusV, if_pos HBO.out]]; exact G52_), k79_, (by first | omega | (simp; omega) | simp), k57_, k58_, k59_⟩
      case measure => simp [intOf] <;> omega
    · obtain rfl : k = B.length := by omega
      have hfin : paidRow B = fnRow B.length (paid B) := if_pos HBO.out
      have HFIN := Lib.hid hfin
      clear hfin
      go_wp2
      go_ret
      rw [HFIN.out]
      (refine retInts_grow G29_ (by omega) ?_ k30_; rw [fnRow_length])

set_option maxRecDepth 10000 in
set_option maxHeartbeats 2000000 in
theorem specPaidRow_no (A : Option Addr) (c : Nat) (B : List (List Int)) (w : World) (lo hi : Nat) (h : Grid w lo hi A B) (hh : hi ≤ w.heap.size) (hl : B.length ≤ 1152921504606846976) (hb : bidB B = false) :
    Calls Try.prog 33 #[.slice A B.length c] w (RetInts w (paidRow B)) := by
  have HBO := Lib.hid hb
  clear hb
  go_enter Try.func33, Try.ntmps33
  have o1_ := h.alloc (by first | omega | (simp; omega) | simp) (.cells #[] 3)
  have B2_ := (Below.refl w.heap.size w).alloc (Nat.le_refl _) (.cells #[] 3)
  have G3_ : Grow (w.alloc (.cells #[] 3)) (w.heap.size) 0 ([] : List Int) := by have e := grow_lit w ([] : List Int) (by simp); (try simp only [hsz] at e); exact e
  have l4_ := G3_.lt
  have HL5_ : Hid (([] : List Int).length = 0) := rfl
  go_wp2_with fail
  refine (specBidsOk_any A c B _ _ _ o1_ (by first | omega | (simp; omega) | simp) hl).mono ?_
  rintro e w6 ⟨he, hb6_⟩
  rw [HBO.out] at he
  subst he
  have o7_ := o1_.below hb6_ (by first | omega | (simp; omega) | simp)
  have o8_ := G3_.below hb6_ (by first | omega | (simp; omega) | simp)
  have z9_ := hb6_.size
  try simp at z9_
  have B10_ := B2_.trans (hb6_.mono (by first | omega | (simp; omega) | simp))
  clear hb6_
  have hfin : paidRow B = ([] : List Int) := by rw [paidRow, if_neg (by rw [HBO.out]; simp)]
  have HFIN := Lib.hid hfin
  clear hfin
  go_wp2
  go_ret
  rw [HFIN.out]
  (refine retInts_grow o8_ (by omega) ?_ B10_; rfl)

theorem specPaidRow_any (A : Option Addr) (c : Nat) (B : List (List Int)) (w : World) (lo hi : Nat) (h : Grid w lo hi A B) (hh : hi ≤ w.heap.size) (hl : B.length ≤ 1152921504606846976) :
    Calls Try.prog 33 #[.slice A B.length c] w (RetInts w (paidRow B)) := by
  by_cases hb : bidB B = true
  · exact specPaidRow_yes A c B w lo hi h hh hl hb
  · exact specPaidRow_no A c B w lo hi h hh hl (by simpa using hb)

theorem specPaid_in {B : List (List Int)} (hb : bidB B = true) (A : Option Addr) (c : Nat) (w : World) (lo hi : Nat) (h : Grid w lo hi A B) (hh : hi ≤ w.heap.size) (hl : B.length ≤ 1152921504606846976) :
    Calls Try.prog 33 #[.slice A B.length c] w (RetInts w (fnRow B.length (paid B))) := by
  have e := specPaidRow_any A c B w lo hi h hh hl
  rwa [paidRow, if_pos hb] at e

set_option maxRecDepth 10000 in
set_option maxHeartbeats 2000000 in
theorem specEndRow_yes (A : Option Addr) (c : Nat) (B : List (List Int)) (w : World) (lo hi : Nat) (h : Grid w lo hi A B) (hh : hi ≤ w.heap.size) (hl : B.length ≤ 1152921504606846976) (hb : bidB B = true) :
    Calls Try.prog 36 #[.slice A B.length c] w (RetInts w (endRow B)) := by
  have HBO := Lib.hid hb
  have hbd := bidB_bd hb
  obtain ⟨hB2, hB4, hT4⟩ := hbd
  clear hb
  go_enter Try.func36, Try.ntmps36
  have o1_ := h.alloc (by first | omega | (simp; omega) | simp) (.cells #[] 3)
  have B2_ := (Below.refl w.heap.size w).alloc (Nat.le_refl _) (.cells #[] 3)
  have G3_ : Grow (w.alloc (.cells #[] 3)) (w.heap.size) 0 ([] : List Int) := by have e := grow_lit w ([] : List Int) (by simp); (try simp only [hsz] at e); exact e
  have l4_ := G3_.lt
  have HL5_ : Hid (([] : List Int).length = 0) := rfl
  go_wp2_with fail
  refine (specBidsOk_any A c B _ _ _ o1_ (by first | omega | (simp; omega) | simp) hl).mono ?_
  rintro e w6 ⟨he, hb6_⟩
  rw [HBO.out] at he
  subst he
  have o7_ := o1_.below hb6_ (by first | omega | (simp; omega) | simp)
  have o8_ := G3_.below hb6_ (by first | omega | (simp; omega) | simp)
  have z9_ := hb6_.size
  try simp at z9_
  have B10_ := B2_.trans (hb6_.mono (by first | omega | (simp; omega) | simp))
  clear hb6_
  go_wp2_with fail
  refine (specTakes_yes A c B _ _ _ o7_ (by first | omega | (simp; omega) | simp) hl HBO.out).mono ?_
  rintro e w11 ⟨A12_, c13_, rfl, ho14_, hb11_⟩
  have o15_ := o7_.below hb11_ (by first | omega | (simp; omega) | simp)
  have o16_ := o8_.below hb11_ (by first | omega | (simp; omega) | simp)
  have z17_ := hb11_.size
  have B18_ := B10_.trans (hb11_.mono (by first | omega | (simp; omega) | simp))
  clear hb11_
  have hl9rta : B.length ≤ (fnRow B.length (takes B)).length := by rw [fnRow_length]; exact Nat.le_refl _
  have hl9rtb : (fnRow B.length (takes B)).length ≤ B.length := by rw [fnRow_length]; exact Nat.le_refl _
  go_wp2_with fail
  refine (specPaid_in HBO.out A c _ _ _ o15_ (by first | omega | (simp; omega) | simp) hl).mono ?_
  rintro e w19 ⟨A20_, c21_, rfl, ho22_, hb19_⟩
  have o23_ := o15_.below hb19_ (by first | omega | (simp; omega) | simp)
  have o24_ := o16_.below hb19_ (by first | omega | (simp; omega) | simp)
  have o25_ := ho14_.below hb19_ (by first | omega | (simp; omega) | simp)
  have z26_ := hb19_.size
  have B27_ := B18_.trans (hb19_.mono (by first | omega | (simp; omega) | simp))
  clear hb19_
  have hl9rpa : B.length ≤ (fnRow B.length (paid B)).length := by rw [fnRow_length]; exact Nat.le_refl _
  have hl9rpb : (fnRow B.length (paid B)).length ≤ B.length := by rw [fnRow_length]; exact Nat.le_refl _
  go_wp2
  go_loopw [6, 3] (fun i v wr => ∃ k : Nat, ∃ g cg : Nat, i = .int .i64 k ∧ v = .slice (some ⟨g, 0, none⟩) k cg ∧ (k ≤ B.length) ∧ (g = w.heap.size ∨ w19.heap.size ≤ g) ∧ w.heap.size ≤ g ∧ Grow wr g cg (fnRow k (endAt B)) ∧ Below w.heap.size w wr ∧ w19.heap.size ≤ wr.heap.size ∧ Grid wr (lo) (hi) A B ∧ Own wr (w6.heap.size) (w11.heap.size) A12_ (fnRow B.length (takes B)) ∧ Own wr (w11.heap.size) (w19.heap.size) A20_ (fnRow B.length (paid B))) (fun i v _ => B.length - (intOf i).toNat)
  case atStart => exact ⟨0, w.heap.size, 0, rfl, (slice_n (by first | rfl | omega | simp)), by omega, Or.inl rfl, (by omega), (by show Grow _ _ _ []; exact o24_), B27_, (by first | omega | (simp; omega) | simp), o23_, o25_, ho22_⟩
  case round =>
    obtain ⟨k, g, cg, rfl, rfl, hk, hga, glb, G29_, k30_, k31_, k32_, k33_, k34_⟩ := hrel
    obtain ⟨w28, rfl⟩ : ∃ x, x = wr := ⟨_, rfl⟩
    have HL35_ : Hid ((fnRow k (endAt B)).length = k) := fnRow_length _ _
    have l36_ := G29_.lt
    by_cases hlt0 : k < B.length
    · obtain ⟨b37_, f38_, rfl, b37_l, b37_h, -⟩ := k33_.ints (by rw [fnRow_length]; omega)
      have c39_ : w28.cell? ⟨b37_, f38_ + k, none⟩ = some (.int .i64 ((fnRow B.length (takes B)).getD k 0)) := k33_.ints.at2 k (by rw [fnRow_length]; omega)
      have c39_i : (k : Int) < ((fnRow B.length (takes B)).length : Int) := by omega
      have c39_j : (0 : Int) ≤ (k : Int) := by omega
      have v40_g := takes_rg HBO.out k
      obtain ⟨v40_, hv40_⟩ : ∃ v, v = (fnRow B.length (takes B)).getD k 0 := ⟨_, rfl⟩
      rw [← hv40_] at c39_ v40_g
      have Hv40_ := Lib.hid hv40_
      clear hv40_
      obtain ⟨v40_g1, v40_g2⟩ := v40_g
      obtain ⟨P41_, hP41_⟩ : ∃ P, (B.length : Int) * v40_ = P := ⟨_, rfl⟩
      have bP41_ := len_mul_rg hB4 (show -20000 ≤ v40_ by omega) (show v40_ ≤ 20000 by omega)
      rw [hP41_] at bP41_
      obtain ⟨bP41_, bP41_'⟩ := bP41_
      have wP41_ : IntKind.i64.wrap P41_ = P41_ := IntWalk.i64_in _ (by omega)
      obtain ⟨b42_, f43_, rfl, b42_l, b42_h, -⟩ := k34_.ints (by rw [fnRow_length]; omega)
      have c44_ : w28.cell? ⟨b42_, f43_ + k, none⟩ = some (.int .i64 ((fnRow B.length (paid B)).getD k 0)) := k34_.ints.at2 k (by rw [fnRow_length]; omega)
      have c44_i : (k : Int) < ((fnRow B.length (paid B)).length : Int) := by omega
      have c44_j : (0 : Int) ≤ (k : Int) := by omega
      have v45_g := paid_rg HBO.out k
      obtain ⟨v45_, hv45_⟩ : ∃ v, v = (fnRow B.length (paid B)).getD k 0 := ⟨_, rfl⟩
      rw [← hv45_] at c44_ v45_g
      have Hv45_ := Lib.hid hv45_
      clear hv45_
      obtain ⟨v45_g1, v45_g2⟩ := v45_g
      have HL48_ : Hid (([(P41_ + v45_)] : List Int).length = 1) := rfl
      have HL52_ : Hid (((fnRow k (endAt B)) ++ ([(P41_ + v45_)] : List Int)).length = k + 1) := by show _ = _; rw [List.length_append, HL35_.out, HL48_.out]
      have hw53_ : IntKind.i64.wrap P41_ = P41_ := IntWalk.i64_in _ (by omega)
      have hw54_ : IntKind.i64.wrap (P41_ + v45_) = (P41_ + v45_) := IntWalk.i64_in _ (by omega)
      have g60_ : hi ≤ w28.heap.size := (by first | omega | (simp; omega) | simp)
      have g61_ : w11.heap.size ≤ w28.heap.size := (by first | omega | (simp; omega) | simp)
      have g62_ : w19.heap.size ≤ w28.heap.size := (by first | omega | (simp; omega) | simp)
      have g63_ : g + 1 ≤ w28.heap.size := (by first | omega | (simp; omega) | simp)
      have g64_ : b37_ < w28.heap.size := (by first | omega | (simp; omega) | simp)
      have g65_ : b42_ < w28.heap.size := (by first | omega | (simp; omega) | simp)
      have g66_ : w.heap.size ≤ w28.heap.size := (by first | omega | (simp; omega) | simp)
      go_wp2_with fail
      refine wp_region_held_drew (S := (fun w' : World => Below w.heap.size w w' ∧ w28.heap.size ≤ w'.heap.size ∧ Grid w' (lo) (hi) A B ∧ Own w' (w6.heap.size) (w11.heap.size) (some ⟨b37_, f38_, none⟩) (fnRow B.length (takes B)) ∧ Own w' (w11.heap.size) (w19.heap.size) (some ⟨b42_, f43_, none⟩) (fnRow B.length (paid B)) ∧ w'.cell? ⟨b37_, f38_ + k, none⟩ = some (.int .i64 v40_) ∧ w'.cell? ⟨b42_, f43_ + k, none⟩ = some (.int .i64 v45_) ∧ w28.heap.size ≤ w'.heap.size)) (by kernel_rfl) ⟨k30_.drew, by exact (by first | omega | (simp; omega) | simp), k32_, k33_, k34_, c39_, c44_, Nat.le_refl _⟩ (fun hHeld => ?_)
      have o67_ : Grow w28.drew g cg (fnRow k (endAt B)) := G29_
      refine wpAnyH_take (i := 0) (oi := ?oi1) (v := ?vv1) ?hi1 ?hs1 ?hf1 ?ha1 ?hq1 ?hy1 hHeld ?hr1
      case hi1 => (simp only [List.getElem?_toArray, List.getElem?_cons_zero]; exact rfl)
      case hs1 => kernel_rfl
      case hf1 => kernel_rfl
      case ha1 => kernel_rfl
      case hq1 => exact fun _ _ _ h => h
      case hy1 =>
        refine Or.inl ⟨by rfl, ?_⟩
        intro w' hSw
        try dsimp only at hSw
        go_simp
        first | done | with_reducible rfl
      simp only [Act.put, List.setIfInBounds_toArray, List.set_cons_succ, List.set_cons_zero]
      refine wpAnyH_take (i := 1) (oi := ?oi2) (v := ?vv2) ?hi2 ?hs2 ?hf2 ?ha2 ?hq2 ?hy2 hHeld ?hr2
      case hi2 => (simp only [List.getElem?_toArray, List.getElem?_cons_succ, List.getElem?_cons_zero]; exact rfl)
      case hs2 => kernel_rfl
      case hf2 => kernel_rfl
      case ha2 => kernel_rfl
      case hq2 => exact fun _ _ _ h => h
      case hy2 =>
        refine Or.inl ⟨by rfl, ?_⟩
        intro w' hSw
        try dsimp only at hSw
        go_simp
        first | done | with_reducible rfl
      simp only [Act.put, List.setIfInBounds_toArray, List.set_cons_succ, List.set_cons_zero]
      refine wpAnyH_take (i := 2) (oi := ?oi3) (v := ?vv3) ?hi3 ?hs3 ?hf3 ?ha3 ?hq3 ?hy3 hHeld ?hr3
      case hi3 => (simp only [List.getElem?_toArray, List.getElem?_cons_succ, List.getElem?_cons_zero]; exact rfl)
      case hs3 => kernel_rfl
      case hf3 => kernel_rfl
      case ha3 => kernel_rfl
      case hq3 => exact fun _ _ _ h => h
      case hy3 =>
        refine Or.inl ⟨by rfl, ?_⟩
        intro w' hSw
        try dsimp only at hSw
        go_simp
        first | done | with_reducible rfl
      simp only [Act.put, List.setIfInBounds_toArray, List.set_cons_succ, List.set_cons_zero]
      refine wpAnyH_take (i := 3) (oi := ?oi4) (v := ?vv4) ?hi4 ?hs4 ?hf4 ?ha4 ?hq4 ?hy4 hHeld ?hr4
      case hi4 => (simp only [List.getElem?_toArray, List.getElem?_cons_succ, List.getElem?_cons_zero]; exact rfl)
      case hs4 => kernel_rfl
      case hf4 => kernel_rfl
      case ha4 => kernel_rfl
      case hq4 => exact fun _ _ _ h => h
      case hy4 =>
        refine Or.inl ⟨by rfl, ?_⟩
        intro w' hSw
        try dsimp only at hSw
        go_simp
        first | done | with_reducible rfl
      simp only [Act.put, List.setIfInBounds_toArray, List.set_cons_succ, List.set_cons_zero]
      refine wpAnyH_take (i := 4) (oi := ?oi5) (v := ?vv5) ?hi5 ?hs5 ?hf5 ?ha5 ?hq5 ?hy5 hHeld ?hr5
      case hi5 => (simp only [List.getElem?_toArray, List.getElem?_cons_succ, List.getElem?_cons_zero]; exact rfl)
      case hs5 => kernel_rfl
      case hf5 => kernel_rfl
      case ha5 => kernel_rfl
      case hq5 => exact fun _ _ _ h => h
      case hy5 =>
        refine Or.inl ⟨by rfl, ?_⟩
        intro w' hSw
        try dsimp only at hSw
        go_simp
        first | done | with_reducible rfl
      simp only [Act.put, List.setIfInBounds_toArray, List.set_cons_succ, List.set_cons_zero]
      refine wpAnyH_take (i := 5) (oi := ?oi6) (v := ?vv6) ?hi6 ?hs6 ?hf6 ?ha6 ?hq6 ?hy6 hHeld ?hr6
      case hi6 => (simp only [List.getElem?_toArray, List.getElem?_cons_succ, List.getElem?_cons_zero]; exact rfl)
      case hs6 => kernel_rfl
      case hf6 => kernel_rfl
      case ha6 => kernel_rfl
      case hq6 => exact fun _ _ _ h => h
      case hy6 =>
        refine Or.inl ⟨by rfl, ?_⟩
        intro w' hSw
        try dsimp only at hSw
        go_simp
        first | done | with_reducible rfl
      simp only [Act.put, List.setIfInBounds_toArray, List.set_cons_succ, List.set_cons_zero]
      refine wpAnyH_take (i := 6) (oi := ?oi7) (v := ?vv7) ?hi7 ?hs7 ?hf7 ?ha7 ?hq7 ?hy7 hHeld ?hr7
      case hi7 => (simp only [List.getElem?_toArray, List.getElem?_cons_succ, List.getElem?_cons_zero]; exact rfl)
      case hs7 => kernel_rfl
      case hf7 => kernel_rfl
      case ha7 => kernel_rfl
      case hq7 => exact fun _ _ _ h => h
      case hy7 =>
        refine Or.inl ⟨by rfl, ?_⟩
        intro w' hSw
        try dsimp only at hSw
        go_simp
        first | done | with_reducible rfl
      simp only [Act.put, List.setIfInBounds_toArray, List.set_cons_succ, List.set_cons_zero]
      refine wpAnyH_take (i := 7) (oi := ?oi8) (v := ?vv8) ?hi8 ?hs8 ?hf8 ?ha8 ?hq8 ?hy8 hHeld ?hr8
      case hi8 => (simp only [List.getElem?_toArray, List.getElem?_cons_succ, List.getElem?_cons_zero]; exact rfl)
      case hs8 => kernel_rfl
      case hf8 => kernel_rfl
      case ha8 => kernel_rfl
      case hq8 => exact fun _ _ _ h => h
      case hy8 =>
        refine Or.inl ⟨by rfl, ?_⟩
        intro w' hSw
        try dsimp only at hSw
        go_simp
        first | done | with_reducible rfl
      simp only [Act.put, List.setIfInBounds_toArray, List.set_cons_succ, List.set_cons_zero]
      refine wpAnyH_take (i := 8) (oi := ?oi9) (v := ?vv9) ?hi9 ?hs9 ?hf9 ?ha9 ?hq9 ?hy9 hHeld ?hr9
      case hi9 => (simp only [List.getElem?_toArray, List.getElem?_cons_succ, List.getElem?_cons_zero]; exact rfl)
      case hs9 => kernel_rfl
      case hf9 => kernel_rfl
      case ha9 => kernel_rfl
      case hq9 => exact fun _ _ _ h => h
      case hy9 =>
        refine Or.inl ⟨by rfl, ?_⟩
        intro w' hSw
        try dsimp only at hSw
        go_simp
        first | done | with_reducible rfl
      simp only [Act.put, List.setIfInBounds_toArray, List.set_cons_succ, List.set_cons_zero]
      refine wpAnyH_take (i := 9) (oi := ?oi10) (v := ?vv10) ?hi10 ?hs10 ?hf10 ?ha10 ?hq10 ?hy10 hHeld ?hr10
      case hi10 => (simp only [List.getElem?_toArray, List.getElem?_cons_succ, List.getElem?_cons_zero]; exact rfl)
      case hs10 => kernel_rfl
      case hf10 => kernel_rfl
      case ha10 => kernel_rfl
      case hq10 => exact fun _ _ _ h => h
      case hy10 =>
        refine Or.inl ⟨by rfl, ?_⟩
        intro w' hSw
        try dsimp only at hSw
        go_simp
        first | done | with_reducible rfl
      simp only [Act.put, List.setIfInBounds_toArray, List.set_cons_succ, List.set_cons_zero]
      refine wpAnyH_take (i := 10) (oi := ?oi11) (v := ?vv11) ?hi11 ?hs11 ?hf11 ?ha11 ?hq11 ?hy11 hHeld ?hr11
      case hi11 => (simp only [List.getElem?_toArray, List.getElem?_cons_succ, List.getElem?_cons_zero]; exact rfl)
      case hs11 => kernel_rfl
      case hf11 => kernel_rfl
      case ha11 => kernel_rfl
      case hq11 => exact fun _ _ _ h => h
      case hy11 =>
        refine Or.inl ⟨by rfl, ?_⟩
        intro w' hSw
        try dsimp only at hSw
        go_simp
        first | done | with_reducible rfl
      simp only [Act.put, List.setIfInBounds_toArray, List.set_cons_succ, List.set_cons_zero]
      refine wpAnyH_take (i := 11) (oi := ?oi12) (v := ?vv12) ?hi12 ?hs12 ?hf12 ?ha12 ?hq12 ?hy12 hHeld ?hr12
      case hi12 => (simp only [List.getElem?_toArray, List.getElem?_cons_succ, List.getElem?_cons_zero]; exact rfl)
      case hs12 => kernel_rfl
      case hf12 => kernel_rfl
      case ha12 => kernel_rfl
      case hq12 => exact fun _ _ _ h => h
      case hy12 =>
        refine Or.inl ⟨by rfl, ?_⟩
        intro w' hSw
        try dsimp only at hSw
        go_simp
        first | done | with_reducible rfl
      simp only [Act.put, List.setIfInBounds_toArray, List.set_cons_succ, List.set_cons_zero]
      refine wpAnyH_take (i := 12) (oi := ?oi13) (v := ?vv13) ?hi13 ?hs13 ?hf13 ?ha13 ?hq13 ?hy13 hHeld ?hr13
      case hi13 => (simp only [List.getElem?_toArray, List.getElem?_cons_succ, List.getElem?_cons_zero]; exact rfl)
      case hs13 => kernel_rfl
      case hf13 => kernel_rfl
      case ha13 => kernel_rfl
      case hq13 => exact fun _ _ _ h => h
      case hy13 =>
        refine Or.inl ⟨by rfl, ?_⟩
        intro w' hSw
        try dsimp only at hSw
        go_simp
        first | done | with_reducible rfl
      simp only [Act.put, List.setIfInBounds_toArray, List.set_cons_succ, List.set_cons_zero]
      refine wpAnyH_ready (rs := [13]) (by kernel_rfl) (by simp) ?_
      refine AllReadyH.cons rfl (fun K hK => ?_) AllReadyH.nil
      obtain ⟨BB, zz, k55_, k56_, k57_, q58_, q59_, zw⟩ := hHeld
      go_simp
      have G47_ : Grow ((w28.alloc (.cells #[.int .i64 (P41_ + v45_)] 3)).drew) (w28.heap.size) 1 ([(P41_ + v45_)] : List Int) := grow_lit w28.drew ([(P41_ + v45_)] : List Int) (by simp)
      have hb9 : Below w28.drew.heap.size w28.drew ((w28.alloc (.cells #[.int .i64 (P41_ + v45_)] 3)).drew) := (Below.refl _ w28.drew).alloc (Nat.le_refl _) (.cells #[.int .i64 (P41_ + v45_)] 3)
      obtain ⟨g46_, hg46_⟩ : ∃ g, w28.heap.size = g := ⟨_, rfl⟩
      rw [hg46_] at G47_
      simp only [hg46_]
      have lg46_ : w.heap.size ≤ g46_ := by omega
      have lWg46_ : w28.heap.size ≤ g46_ := by omega
      have leg46_ : g46_ ≤ w28.heap.size := by omega
      have geg46_ : w28.heap.size ≤ g46_ := by omega
      obtain ⟨w68, hw68⟩ : ∃ x, x = ((w28.alloc (.cells #[.int .i64 (P41_ + v45_)] 3)).drew) := ⟨_, rfl⟩
      rw [← hw68] at G47_ hb9
      rw [← hw68]
      clear hw68 hg46_
      have l69_ := G47_.lt
      have o70_ := o67_.below hb9 (by first | omega | (simp; omega) | simp)
      refine hK.out _ _ ⟨BB.trans (hb9.mono (by omega)), Nat.le_trans zz hb9.size, k55_.below hb9 (by first | omega | (simp; omega) | simp), k56_.below hb9 (by first | omega | (simp; omega) | simp), k57_.below hb9 (by first | omega | (simp; omega) | simp), (hb9.cell (by show b37_ < _; omega)).trans q58_, (hb9.cell (by show b42_ < _; omega)).trans q59_, Nat.le_trans zw hb9.size⟩ (fun hHeld => ?_)
      clear hb9 zw q59_ q58_ k57_ k56_ k55_ zz BB
      clear hK K
      try simp only [Act.put, List.setIfInBounds_toArray, List.set_cons_zero, List.set_cons_succ]
      refine wpAnyH_ready (rs := [14]) (by kernel_rfl) (by simp) ?_
      refine AllReadyH.cons (o := ?ox14) ?hx14 (fun K hK => ?_) AllReadyH.nil
      case hx14 => (simp only [List.getElem?_toArray, List.getElem?_cons_succ, List.getElem?_cons_zero]; exact rfl)
      obtain ⟨BB, zz, k55_, k56_, k57_, q58_, q59_, zw⟩ := hHeld
      refine step_gr (by rfl) _ _ (by rfl) (xs := (fnRow k (endAt B))) (ys := ([(P41_ + v45_)] : List Int)) (by rfl) (by have e := HL35_.out; omega) o70_ (by rfl) (by have e := HL48_.out; omega) (G47_.ints.read) (by omega) ?_
      intro g49_ c50_ w71 G51_ hC72_ hg49_
      have lg49_ : w.heap.size ≤ g49_ := by omega
      have lSg49_ : g49_ = g ∨ w28.heap.size ≤ g49_ := by omega
      have l73_ := G51_.lt
      have l74_ := hC72_.size
      have G47_ := G47_.chg hC72_ (by omega)
      refine hK.out _ _ ⟨BB.trans (hC72_.below (by omega) (by omega)), Nat.le_trans zz hC72_.size, k55_.chg hC72_ (by first | omega | (simp; omega) | simp) (by omega), k56_.chg hC72_ (by first | omega | (simp; omega) | simp) (by omega), k57_.chg hC72_ (by first | omega | (simp; omega) | simp) (by omega), (hC72_.cell (by show b37_ < _; omega) (by first | omega | (simp; omega) | simp)).trans q58_, (hC72_.cell (by show b42_ < _; omega) (by first | omega | (simp; omega) | simp)).trans q59_, Nat.le_trans zw hC72_.size⟩ (fun hHeld => ?_)
      clear hC72_ zw q59_ q58_ k57_ k56_ k55_ zz BB
      clear hK K
      try simp only [Act.put, List.setIfInBounds_toArray, List.set_cons_zero, List.set_cons_succ]
      refine wpAnyH_take (i := 15) (oi := ?oi15) (v := ?vv15) ?hi15 ?hs15 ?hf15 ?ha15 ?hq15 ?hy15 hHeld ?hr15
      case hi15 => (simp only [List.getElem?_toArray, List.getElem?_cons_succ, List.getElem?_cons_zero]; exact rfl)
      case hs15 => kernel_rfl
      case hf15 => kernel_rfl
      case ha15 => kernel_rfl
      case hq15 => exact fun _ _ _ h => h
      case hy15 =>
        refine Or.inl ⟨by rfl, ?_⟩
        intro w' hSw
        try dsimp only at hSw
        go_simp
        first | done | with_reducible rfl
      simp only [Act.put, List.setIfInBounds_toArray, List.set_cons_succ, List.set_cons_zero]
      refine wpAnyH_done (by kernel_rfl) ?_ _
      obtain ⟨BB, zz, k55_, k56_, k57_, q58_, q59_, zw⟩ := hHeld
      clear hw53_ hw54_
      have k75_ := BB
      clear BB
      have k76_ := zz
      clear zz
      have k77_ := zw
      clear zw
      go_wp2
      go_roundw
      case rel => exact ⟨k + 1, g49_, c50_, by go_num, (slice_n (by first | rfl | omega | simp)), by omega, by omega, (by omega), (by rw [fnRow_succ, show endAt B k = P41_ + v45_ from by unfold endAt; rw [← hP41_, Hv45_.out, Hv40_.out, fnRow_getD _ (by omega), fnRow_getD _ (by omega)]]; exact G51_), k75_, (by first | omega | (simp; omega) | simp), k55_, k56_, k57_⟩
      case measure => simp [intOf] <;> omega
    · obtain rfl : k = B.length := by omega
      have hfin : endRow B = fnRow B.length (endAt B) := if_pos HBO.out
      have HFIN := Lib.hid hfin
      clear hfin
      go_wp2
      go_ret
      rw [HFIN.out]
      (refine retInts_grow G29_ (by omega) ?_ k30_; rw [fnRow_length])

set_option maxRecDepth 10000 in
set_option maxHeartbeats 2000000 in
theorem specEndRow_no (A : Option Addr) (c : Nat) (B : List (List Int)) (w : World) (lo hi : Nat) (h : Grid w lo hi A B) (hh : hi ≤ w.heap.size) (hl : B.length ≤ 1152921504606846976) (hb : bidB B = false) :
    Calls Try.prog 36 #[.slice A B.length c] w (RetInts w (endRow B)) := by
  have HBO := Lib.hid hb
  clear hb
  go_enter Try.func36, Try.ntmps36
  have o1_ := h.alloc (by first | omega | (simp; omega) | simp) (.cells #[] 3)
  have B2_ := (Below.refl w.heap.size w).alloc (Nat.le_refl _) (.cells #[] 3)
  have G3_ : Grow (w.alloc (.cells #[] 3)) (w.heap.size) 0 ([] : List Int) := by have e := grow_lit w ([] : List Int) (by simp); (try simp only [hsz] at e); exact e
  have l4_ := G3_.lt
  have HL5_ : Hid (([] : List Int).length = 0) := rfl
  go_wp2_with fail
  refine (specBidsOk_any A c B _ _ _ o1_ (by first | omega | (simp; omega) | simp) hl).mono ?_
  rintro e w6 ⟨he, hb6_⟩
  rw [HBO.out] at he
  subst he
  have o7_ := o1_.below hb6_ (by first | omega | (simp; omega) | simp)
  have o8_ := G3_.below hb6_ (by first | omega | (simp; omega) | simp)
  have z9_ := hb6_.size
  try simp at z9_
  have B10_ := B2_.trans (hb6_.mono (by first | omega | (simp; omega) | simp))
  clear hb6_
  have hfin : endRow B = ([] : List Int) := by rw [endRow, if_neg (by rw [HBO.out]; simp)]
  have HFIN := Lib.hid hfin
  clear hfin
  go_wp2
  go_ret
  rw [HFIN.out]
  (refine retInts_grow o8_ (by omega) ?_ B10_; rfl)

theorem specEndRow_any (A : Option Addr) (c : Nat) (B : List (List Int)) (w : World) (lo hi : Nat) (h : Grid w lo hi A B) (hh : hi ≤ w.heap.size) (hl : B.length ≤ 1152921504606846976) :
    Calls Try.prog 36 #[.slice A B.length c] w (RetInts w (endRow B)) := by
  by_cases hb : bidB B = true
  · exact specEndRow_yes A c B w lo hi h hh hl hb
  · exact specEndRow_no A c B w lo hi h hh hl (by simpa using hb)


end Go.Proofs.Ytpdlppmkjkbboaa
