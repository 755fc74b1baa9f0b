/-
  The law of what sets are worth in the other case returns true for every code, and writes nothing that was there. No condition.
-/
import Derived.Test.YthhcjomfpjopdaaGA
import Derived.Test.YthhcjomfpjopdaaDrawW
import Derived.Test.YthhcjomfpjopdaaGame
import Derived.Test.YthhcjomfpjopdaaGame6I
import Derived.Test.YthhcjomfpjopdaaGB
import Derived.Test.YthhcjomfpjopdaaFx
import Derived.Deep.RegionHeld3
namespace Go.Proofs.Ythhcjomfpjopdaa
open Go.RowKit

set_option maxRecDepth 10000 in
set_option maxHeartbeats 2000000 in
theorem fnWorthOther_walk (A0 : Option Addr) (c0 : Nat) (bs : List Int) (w : World) (h0 : Bytes w w.heap.size A0 bs) (hl : bs.length ≤ 1048576) (hc0 : bs.length ≤ c0) :
    Calls Try.prog 8 #[.slice A0 bs.length c0] w fun e w' => e = .returned (.bool true) ∧ Below w.heap.size w w' := by
  have hlm : bs.length ≤ 9223372036854775807 := by omega
  go_enter Try.func8, Try.ntmps8
  have Htrue : Hid True := trivial
  have hc0u := hc0
  have h0u := h0
  have hlmu := hlm
  go_wp2_with fail
  refine (drawWorthOf_any A0 c0 bs _ (h0.more (by first | omega | (simp; omega) | simp)) hlm hc0).mono ?_
  rintro e w1 ⟨E, A3_, c4_, xs, s, hx5, hs, rfl, ho5_, hb2_⟩
  have o6_ := h0.below hb2_ (by first | omega | (simp; omega) | simp)
  have z7_ := hb2_.size
  have B8_ := (Below.refl w.heap.size w).trans (hb2_.mono (by first | omega | (simp; omega) | simp))
  clear hb2_
  have hlbsxs : xs.length ≤ 1152921504606846976 := by omega
  obtain ⟨hsl, hsu⟩ := hs
  obtain ⟨hp1, hp2⟩ := pow_set hx5
  have o9_ := o6_.below ((Below.refl _ _).alloc (Nat.le_refl _) (.cells #[.int .i64 E, .slice A3_ xs.length c4_] 25)) (by first | omega | (simp; omega) | simp)
  have o10_ := ho5_.alloc (by first | omega | (simp; omega) | simp) (.cells #[.int .i64 E, .slice A3_ xs.length c4_] 25)
  have B11_ := B8_.alloc (by first | omega | (simp; omega) | simp) (.cells #[.int .i64 E, .slice A3_ xs.length c4_] 25)
  have a12_ : (w1.alloc (.cells #[.int .i64 E, .slice A3_ xs.length c4_] 25)).cell? ⟨w1.heap.size, 0, none⟩ = some (.int .i64 E) := by simp [go_sem]
  have a13_ : (w1.alloc (.cells #[.int .i64 E, .slice A3_ xs.length c4_] 25)).cell? ⟨w1.heap.size, 1, none⟩ = some (.slice A3_ xs.length c4_) := by simp [go_sem]
  go_wp2_with fail
  refine (implWorthOf_any E A3_ c4_ xs s _ _ _ o10_.ints (by first | omega | (simp; omega) | simp) (by omega)).mono ?_
  rintro e w14 ⟨he, hb14_⟩
  obtain ⟨v15_, hv15_⟩ : ∃ v, worthOf E xs s = v := ⟨_, rfl⟩
  rw [hv15_] at he
  subst he
  have bv15_ : -1 ≤ v15_ ∧ v15_ ≤ 48 := by rw [← hv15_]; exact worthOf_bd _ _ _
  obtain ⟨bv15_1, bv15_2⟩ := bv15_
  have Hv15_ := Lib.hid hv15_
  clear hv15_
  have o16_ := o9_.below hb14_ (by first | omega | (simp; omega) | simp)
  have o17_ := o10_.below hb14_ (by first | omega | (simp; omega) | simp)
  have o18_ := (hb14_.cell (p := ⟨w1.heap.size, 0, none⟩) (by first | omega | (simp; omega) | simp)).trans a12_
  have o19_ := (hb14_.cell (p := ⟨w1.heap.size, 1, none⟩) (by first | omega | (simp; omega) | simp)).trans a13_
  have z20_ := hb14_.size
  try simp at z20_
  have B21_ := B11_.trans (hb14_.mono (by first | omega | (simp; omega) | simp))
  clear hb14_
  by_cases h22_ : v15_ < 0
  · have h22_d : decide (v15_ < 0) = true := decide_eq_true h22_
    go_wp2_with fail
    refine (specWorthOf_any E A3_ c4_ xs s _ _ _ o17_.ints (by first | omega | (simp; omega) | simp) (by omega)).mono ?_
    rintro e w23 ⟨he, hb23_⟩
    rw [Hv15_.out] at he
    subst he
    have o24_ := o16_.below hb23_ (by first | omega | (simp; omega) | simp)
    have o25_ := o17_.below hb23_ (by first | omega | (simp; omega) | simp)
    have o26_ := (hb23_.cell (p := ⟨w1.heap.size, 0, none⟩) (by first | omega | (simp; omega) | simp)).trans o18_
    have o27_ := (hb23_.cell (p := ⟨w1.heap.size, 1, none⟩) (by first | omega | (simp; omega) | simp)).trans o19_
    have z28_ := hb23_.size
    have B29_ := B21_.trans (hb23_.mono (by first | omega | (simp; omega) | simp))
    clear hb23_
    go_wp2_with fail
    refine (alive_any _).mono ?_
    rintro e w30 ⟨rfl, hb30_⟩
    have o31_ := o24_.below hb30_ (by first | omega | (simp; omega) | simp)
    have o32_ := o25_.below hb30_ (by first | omega | (simp; omega) | simp)
    have o33_ := (hb30_.cell (p := ⟨w1.heap.size, 0, none⟩) (by first | omega | (simp; omega) | simp)).trans o26_
    have o34_ := (hb30_.cell (p := ⟨w1.heap.size, 1, none⟩) (by first | omega | (simp; omega) | simp)).trans o27_
    have z35_ := hb30_.size
    have B36_ := B29_.trans (hb30_.mono (by first | omega | (simp; omega) | simp))
    clear hb30_
    go_wp2
    go_ret
    exact ⟨ret_bool (by first | exact rfl | exact (decide_eq_true (by omega)).trans rfl), B36_⟩
  · have h22_d : decide (v15_ < 0) = false := decide_eq_false h22_
    obtain ⟨hok, hs0, hs1⟩ := worthOf_ok (E := E) (xs := xs) (s := s) (by rw [Hv15_.out]; omega)
    have hbd := caseOk_bd hok
    have HOK := Lib.hid hok
    have HV := Lib.hid (fun k hk => case_getD hok k hk)
    have HB := Lib.hid (fun k hk => inSum_bd (xs := xs) (by omega) HV.out s k hk)
    clear hok
    go_wp2_with fail
    refine (implOtherCase_yes E A3_ c4_ xs _ _ _ o17_.ints (by first | omega | (simp; omega) | simp) HOK.out).mono ?_
    rintro e w23 ⟨A24_, c25_, rfl, ho26_, hb23_⟩
    have o27_ := o16_.below hb23_ (by first | omega | (simp; omega) | simp)
    have o28_ := o17_.below hb23_ (by first | omega | (simp; omega) | simp)
    have o29_ := (hb23_.cell (p := ⟨w1.heap.size, 0, none⟩) (by first | omega | (simp; omega) | simp)).trans o18_
    have o30_ := (hb23_.cell (p := ⟨w1.heap.size, 1, none⟩) (by first | omega | (simp; omega) | simp)).trans o19_
    have z31_ := hb23_.size
    have B32_ := B21_.trans (hb23_.mono (by first | omega | (simp; omega) | simp))
    clear hb23_
    have o33_ := o27_.below ((Below.refl _ _).alloc (Nat.le_refl _) (.cells #[.int .i64 (xs.sum - E), .slice A24_ xs.length c25_] 25)) (by first | omega | (simp; omega) | simp)
    have o34_ := o28_.alloc (by first | omega | (simp; omega) | simp) (.cells #[.int .i64 (xs.sum - E), .slice A24_ xs.length c25_] 25)
    have o35_ := ho26_.alloc (by first | omega | (simp; omega) | simp) (.cells #[.int .i64 (xs.sum - E), .slice A24_ xs.length c25_] 25)
    have o36_ := cell_alloc (o := (.cells #[.int .i64 (xs.sum - E), .slice A24_ xs.length c25_] 25)) o29_ (by first | omega | (simp; omega) | simp)
    have o37_ := cell_alloc (o := (.cells #[.int .i64 (xs.sum - E), .slice A24_ xs.length c25_] 25)) o30_ (by first | omega | (simp; omega) | simp)
    have B38_ := B32_.alloc (by first | omega | (simp; omega) | simp) (.cells #[.int .i64 (xs.sum - E), .slice A24_ xs.length c25_] 25)
    have a39_ : (w23.alloc (.cells #[.int .i64 (xs.sum - E), .slice A24_ xs.length c25_] 25)).cell? ⟨w23.heap.size, 0, none⟩ = some (.int .i64 (xs.sum - E)) := by simp [go_sem]
    have a40_ : (w23.alloc (.cells #[.int .i64 (xs.sum - E), .slice A24_ xs.length c25_] 25)).cell? ⟨w23.heap.size, 1, none⟩ = some (.slice A24_ xs.length c25_) := by simp [go_sem]
    go_wp2
    go_loopw [8, 9] (fun o i wr => ∃ k : Nat, ∃ S : Int, o = .int .i64 S ∧ i = .int .i64 k ∧ (k ≤ xs.length) ∧ (S = inSum xs s k) ∧ Below w.heap.size w wr ∧ w23.heap.size + 1 ≤ wr.heap.size ∧ Bytes wr (w.heap.size) A0 bs ∧ Own wr (w.heap.size) (w1.heap.size) A3_ xs ∧ Own wr (w14.heap.size) (w23.heap.size) A24_ xs ∧ wr.cell? ⟨w1.heap.size, 0, none⟩ = some (.int .i64 E) ∧ wr.cell? ⟨w1.heap.size, 1, none⟩ = some (.slice A3_ xs.length c4_) ∧ wr.cell? ⟨w23.heap.size, 0, none⟩ = some (.int .i64 (xs.sum - E)) ∧ wr.cell? ⟨w23.heap.size, 1, none⟩ = some (.slice A24_ xs.length c25_)) (fun o i _ => xs.length - (intOf i).toNat)
    case atStart => exact ⟨0, 0, rfl, rfl, Nat.zero_le _, rfl, B38_, (by first | omega | (simp; omega) | simp), o33_, o34_, o35_, o36_, o37_, a39_, a40_⟩
    case round =>
      obtain ⟨k, S, rfl, rfl, hk, hS, k42_, k43_, k44_, k45_, k46_, k47_, k48_, k49_, k50_⟩ := hrel
      obtain ⟨w41, rfl⟩ : ∃ x, x = wr := ⟨_, rfl⟩
      have hbS := HB.out k hk
      rw [← hS] at hbS
      have hp2_ : 0 ≤ s / 2 ^ k := Int.ediv_nonneg (by omega) (by exact Int.le_of_lt (Int.pow_pos (by omega)))
      have HS := Lib.hid hS
      clear hS
      by_cases hlt0 : k < xs.length
      · by_cases h51_ : ((s / 2 ^ k) % 2) = 1
        · have h51_b : (((s / 2 ^ k) % 2) == 1) = true := by simpa using h51_
          have h51_n : (((s / 2 ^ k) % 2) != 1) = false := by simpa using h51_
          have h51_le : ((s / 2 ^ k) % 2) ≤ 1 := by omega
          have h51_ge : 1 ≤ ((s / 2 ^ k) % 2) := by omega
          have Hh51_ := Lib.hid h51_
          clear h51_
          obtain ⟨b52_, f53_, rfl, b52_l, b52_h, -⟩ := k45_.ints (by omega)
          have c54_ : w41.cell? ⟨b52_, f53_ + k, none⟩ = some (.int .i64 (xs.getD k 0)) := k45_.ints.at2 k (by first | omega | (simp; omega) | simp)
          have c54_i : (k : Int) < (xs.length : Int) := by omega
          have c54_j : (0 : Int) ≤ (k : Int) := by omega
          have v55_g := (HV.out k (by omega) : -2400 ≤ xs.getD k 0 ∧ xs.getD k 0 ≤ 2400)
          obtain ⟨v55_, hv55_⟩ : ∃ v, v = xs.getD k 0 := ⟨_, rfl⟩
          rw [← hv55_] at c54_ v55_g
          have Hv55_ := Lib.hid hv55_
          clear hv55_
          obtain ⟨v55_g1, v55_g2⟩ := v55_g
          go_wp2
          go_roundw
          case rel => exact ⟨k + 1, S + v55_, by go_num, by go_num, by omega, by simp only [inSum]; rw [← HS.out, if_pos Hh51_.out]; rw [← Hv55_.out], k42_, (by first | omega | (simp; omega) | simp), k44_, k45_, k46_, k47_, k48_, k49_, k50_⟩
          case measure => simp [intOf] <;> omega
        · have h51_b : (((s / 2 ^ k) % 2) == 1) = false := by simpa using h51_
          have h51_n : (((s / 2 ^ k) % 2) != 1) = true := by simpa using h51_
          go_wp2
          go_roundw
          case rel => exact ⟨k + 1, S, by go_num, by go_num, by omega, by simp only [inSum]; rw [← HS.out, if_neg h51_]; simp, k42_, (by first | omega | (simp; omega) | simp), k44_, k45_, k46_, k47_, k48_, k49_, k50_⟩
          case measure => simp [intOf] <;> omega
      · obtain rfl : k = xs.length := by omega
        go_wp2_with fail
        refine (implWorthOf_any (xs.sum - E) A24_ c25_ xs s _ _ _ k46_.ints (by first | omega | (simp; omega) | simp) (by omega)).mono ?_
        rintro e w51 ⟨he, hb51_⟩
        obtain ⟨v52_, hv52_⟩ : ∃ v, worthOf (xs.sum - E) xs s = v := ⟨_, rfl⟩
        rw [hv52_] at he
        subst he
        have bv52_ : -1 ≤ v52_ ∧ v52_ ≤ 48 := by rw [← hv52_]; exact worthOf_bd _ _ _
        obtain ⟨bv52_1, bv52_2⟩ := bv52_
        have Hv52_ := Lib.hid hv52_
        clear hv52_
        have o53_ := k44_.below hb51_ (by first | omega | (simp; omega) | simp)
        have o54_ := k45_.below hb51_ (by first | omega | (simp; omega) | simp)
        have o55_ := k46_.below hb51_ (by first | omega | (simp; omega) | simp)
        have o56_ := (hb51_.cell (p := ⟨w1.heap.size, 0, none⟩) (by first | omega | (simp; omega) | simp)).trans k47_
        have o57_ := (hb51_.cell (p := ⟨w1.heap.size, 1, none⟩) (by first | omega | (simp; omega) | simp)).trans k48_
        have o58_ := (hb51_.cell (p := ⟨w23.heap.size, 0, none⟩) (by first | omega | (simp; omega) | simp)).trans k49_
        have o59_ := (hb51_.cell (p := ⟨w23.heap.size, 1, none⟩) (by first | omega | (simp; omega) | simp)).trans k50_
        have z60_ := hb51_.size
        have B61_ := k42_.trans (hb51_.mono (by first | omega | (simp; omega) | simp))
        clear hb51_
        obtain ⟨v62_, hv62_⟩ : ∃ v, worthOf E xs (((2 ^ xs.length) - 1) - s) = v := ⟨_, rfl⟩
        have bv62_ : -1 ≤ v62_ ∧ v62_ ≤ 48 := by rw [← hv62_]; exact worthOf_bd _ _ _
        obtain ⟨bv62_1, bv62_2⟩ := bv62_
        have Hv62_ := Lib.hid hv62_
        clear hv62_
        have hw63_ : IntKind.i64.wrap (2 ^ xs.length) = (2 ^ xs.length) := IntWalk.i64_in _ (by omega)
        have hw64_ : IntKind.i64.wrap ((2 ^ xs.length) - 1) = ((2 ^ xs.length) - 1) := IntWalk.i64_in _ (by omega)
        have hw65_ : IntKind.i64.wrap (((2 ^ xs.length) - 1) - s) = (((2 ^ xs.length) - 1) - s) := IntWalk.i64_in _ (by omega)
        have g73_ : w1.heap.size < w51.heap.size := (by first | omega | (simp; omega) | simp)
        have g74_ : w23.heap.size < w51.heap.size := (by first | omega | (simp; omega) | simp)
        have g75_ : w.heap.size ≤ w51.heap.size := (by first | omega | (simp; omega) | simp)
        have g76_ : w1.heap.size ≤ w51.heap.size := (by first | omega | (simp; omega) | simp)
        have g77_ : w23.heap.size ≤ w51.heap.size := (by first | omega | (simp; omega) | simp)
        have g78_ : w.heap.size ≤ w51.heap.size := (by first | omega | (simp; omega) | simp)
        go_wp2_with fail
        refine wp_region_held_drew (S := (fun w' : World => Below w.heap.size w w' ∧ w51.heap.size ≤ w'.heap.size ∧ Bytes w' (w.heap.size) A0 bs ∧ Own w' (w.heap.size) (w1.heap.size) A3_ xs ∧ Own w' (w14.heap.size) (w23.heap.size) A24_ xs ∧ w'.cell? ⟨w1.heap.size, 0, none⟩ = some (.int .i64 E) ∧ w'.cell? ⟨w1.heap.size, 1, none⟩ = some (.slice A3_ xs.length c4_) ∧ w'.cell? ⟨w23.heap.size, 0, none⟩ = some (.int .i64 (xs.sum - E)) ∧ w'.cell? ⟨w23.heap.size, 1, none⟩ = some (.slice A24_ xs.length c25_) ∧ w51.heap.size ≤ w'.heap.size)) (by kernel_rfl) ⟨B61_.drew, by exact (by first | omega | (simp; omega) | simp), o53_, o54_, o55_, o56_, o57_, o58_, o59_, Nat.le_refl _⟩ (fun hHeld => ?_)
        refine wpAnyH_take (i := 0) (oi := ?oi1) (v := ?vv1) ?hi1 ?hs1 ?hf1 ?ha1 ?hq1 ?hy1 hHeld ?hr1
        case hi1 => (simp only [List.getElem?_toArray, List.getElem?_cons_zero]; exact rfl)
        case hs1 => kernel_rfl
        case hf1 => kernel_rfl
        case ha1 => kernel_rfl
        case hq1 => exact fun _ _ _ h => h
        case hy1 =>
          refine Or.inl ⟨by rfl, ?_⟩
          intro w' hSw
          try dsimp only at hSw
          go_simp
          first | done | with_reducible rfl
        simp only [Act.put, List.setIfInBounds_toArray, List.set_cons_succ, List.set_cons_zero]
        refine wpAnyH_take (i := 1) (oi := ?oi2) (v := ?vv2) ?hi2 ?hs2 ?hf2 ?ha2 ?hq2 ?hy2 hHeld ?hr2
        case hi2 => (simp only [List.getElem?_toArray, List.getElem?_cons_succ, List.getElem?_cons_zero]; exact rfl)
        case hs2 => kernel_rfl
        case hf2 => kernel_rfl
        case ha2 => kernel_rfl
        case hq2 => exact fun _ _ _ h => h
        case hy2 =>
          refine Or.inl ⟨by rfl, ?_⟩
          intro w' hSw
          try dsimp only at hSw
          go_simp
          first | done | with_reducible rfl
        simp only [Act.put, List.setIfInBounds_toArray, List.set_cons_succ, List.set_cons_zero]
        refine wpAnyH_take (i := 2) (oi := ?oi3) (v := ?vv3) ?hi3 ?hs3 ?hf3 ?ha3 ?hq3 ?hy3 hHeld ?hr3
        case hi3 => (simp only [List.getElem?_toArray, List.getElem?_cons_succ, List.getElem?_cons_zero]; exact rfl)
        case hs3 => kernel_rfl
        case hf3 => kernel_rfl
        case ha3 => kernel_rfl
        case hq3 => exact fun _ _ _ h => h
        case hy3 =>
          refine Or.inl ⟨by rfl, ?_⟩
          intro w' hSw
          try dsimp only at hSw
          go_simp
          first | done | with_reducible rfl
        simp only [Act.put, List.setIfInBounds_toArray, List.set_cons_succ, List.set_cons_zero]
        refine wpAnyH_take (i := 3) (oi := ?oi4) (v := ?vv4) ?hi4 ?hs4 ?hf4 ?ha4 ?hq4 ?hy4 hHeld ?hr4
        case hi4 => (simp only [List.getElem?_toArray, List.getElem?_cons_succ, List.getElem?_cons_zero]; exact rfl)
        case hs4 => kernel_rfl
        case hf4 => kernel_rfl
        case ha4 => kernel_rfl
        case hq4 => exact fun _ _ _ h => h
        case hy4 =>
          refine Or.inl ⟨by rfl, ?_⟩
          intro w' hSw
          try dsimp only at hSw
          go_simp
          first | done | with_reducible rfl
        simp only [Act.put, List.setIfInBounds_toArray, List.set_cons_succ, List.set_cons_zero]
        refine wpAnyH_take (i := 4) (oi := ?oi5) (v := ?vv5) ?hi5 ?hs5 ?hf5 ?ha5 ?hq5 ?hy5 hHeld ?hr5
        case hi5 => (simp only [List.getElem?_toArray, List.getElem?_cons_succ, List.getElem?_cons_zero]; exact rfl)
        case hs5 => kernel_rfl
        case hf5 => kernel_rfl
        case ha5 => kernel_rfl
        case hq5 => exact fun _ _ _ h => h
        case hy5 =>
          refine Or.inl ⟨by rfl, ?_⟩
          intro w' hSw
          try dsimp only at hSw
          go_simp
          first | done | with_reducible rfl
        simp only [Act.put, List.setIfInBounds_toArray, List.set_cons_succ, List.set_cons_zero]
        refine wpAnyH_take (i := 5) (oi := ?oi6) (v := ?vv6) ?hi6 ?hs6 ?hf6 ?ha6 ?hq6 ?hy6 hHeld ?hr6
        case hi6 => (simp only [List.getElem?_toArray, List.getElem?_cons_succ, List.getElem?_cons_zero]; exact rfl)
        case hs6 => kernel_rfl
        case hf6 => kernel_rfl
        case ha6 => kernel_rfl
        case hq6 => exact fun _ _ _ h => h
        case hy6 =>
          refine Or.inl ⟨by rfl, ?_⟩
          intro w' hSw
          try dsimp only at hSw
          go_simp
          first | done | with_reducible rfl
        simp only [Act.put, List.setIfInBounds_toArray, List.set_cons_succ, List.set_cons_zero]
        refine wpAnyH_take (i := 6) (oi := ?oi7) (v := ?vv7) ?hi7 ?hs7 ?hf7 ?ha7 ?hq7 ?hy7 hHeld ?hr7
        case hi7 => (simp only [List.getElem?_toArray, List.getElem?_cons_succ, List.getElem?_cons_zero]; exact rfl)
        case hs7 => kernel_rfl
        case hf7 => kernel_rfl
        case ha7 => kernel_rfl
        case hq7 => exact fun _ _ _ h => h
        case hy7 =>
          refine Or.inl ⟨by rfl, ?_⟩
          intro w' hSw
          try dsimp only at hSw
          go_simp
          first | done | with_reducible rfl
        simp only [Act.put, List.setIfInBounds_toArray, List.set_cons_succ, List.set_cons_zero]
        refine wpAnyH_take (i := 7) (oi := ?oi8) (v := ?vv8) ?hi8 ?hs8 ?hf8 ?ha8 ?hq8 ?hy8 hHeld ?hr8
        case hi8 => (simp only [List.getElem?_toArray, List.getElem?_cons_succ, List.getElem?_cons_zero]; exact rfl)
        case hs8 => kernel_rfl
        case hf8 => kernel_rfl
        case ha8 => kernel_rfl
        case hq8 => exact fun _ _ _ h => h
        case hy8 =>
          refine Or.inl ⟨by rfl, ?_⟩
          intro w' hSw
          try dsimp only at hSw
          go_simp
          first | done | with_reducible rfl
        simp only [Act.put, List.setIfInBounds_toArray, List.set_cons_succ, List.set_cons_zero]
        refine wpAnyH_ready (rs := [8]) (by kernel_rfl) (by simp) ?_
        refine AllReadyH.cons rfl (fun K hK => ?_) AllReadyH.nil
        go_simp
        go_at_call 15
        obtain ⟨BB, zz, k66_, k67_, k68_, k69_, k70_, k71_, k72_, zw⟩ := hHeld
        (with_reducible refine (below_is (implWorthOf_any E A3_ c4_ xs (((2 ^ xs.length) - 1) - s) _ _ _ k67_.ints (by first | omega | (simp; omega) | simp) (by omega)) (congrArg (Value.int .i64) Hv62_.out)).mono ?_)
        rintro e w79 ⟨rfl, hb9⟩
        refine hK.out _ _ ⟨BB.trans (hb9.mono (by omega)), Nat.le_trans zz hb9.size, k66_.below hb9 (by first | omega | (simp; omega) | simp), k67_.below hb9 (by first | omega | (simp; omega) | simp), k68_.below hb9 (by first | omega | (simp; omega) | simp), (hb9.cell (p := ⟨w1.heap.size, 0, none⟩) (by first | omega | (simp; omega) | simp)).trans k69_, (hb9.cell (p := ⟨w1.heap.size, 1, none⟩) (by first | omega | (simp; omega) | simp)).trans k70_, (hb9.cell (p := ⟨w23.heap.size, 0, none⟩) (by first | omega | (simp; omega) | simp)).trans k71_, (hb9.cell (p := ⟨w23.heap.size, 1, none⟩) (by first | omega | (simp; omega) | simp)).trans k72_, Nat.le_trans zw hb9.size⟩ (fun hHeld => ?_)
        clear hb9 zw k72_ k71_ k70_ k69_ k68_ k67_ k66_ zz BB
        clear hK K
        try simp only [Act.put, List.setIfInBounds_toArray, List.set_cons_zero, List.set_cons_succ]
        refine wpAnyH_take (i := 9) (oi := ?oi9) (v := ?vv9) ?hi9 ?hs9 ?hf9 ?ha9 ?hq9 ?hy9 hHeld ?hr9
        case hi9 => (simp only [List.getElem?_toArray, List.getElem?_cons_succ, List.getElem?_cons_zero]; exact rfl)
        case hs9 => kernel_rfl
        case hf9 => kernel_rfl
        case ha9 => kernel_rfl
        case hq9 => exact fun _ _ _ h => h
        case hy9 =>
          refine Or.inl ⟨by rfl, ?_⟩
          intro w' hSw
          try dsimp only at hSw
          go_simp
          first | done | with_reducible rfl
        simp only [Act.put, List.setIfInBounds_toArray, List.set_cons_succ, List.set_cons_zero]
        refine wpAnyH_done (by kernel_rfl) ?_ _
        obtain ⟨BB, zz, k66_, k67_, k68_, k69_, k70_, k71_, k72_, zw⟩ := hHeld
        clear hw63_ hw64_ hw65_
        have k80_ := BB
        clear BB
        have k81_ := zz
        clear zz
        have k82_ := zw
        clear zw
        go_wp2_with fail
        refine (alive_any _).mono ?_
        rintro e w83 ⟨rfl, hb83_⟩
        have o84_ := k66_.below hb83_ (by first | omega | (simp; omega) | simp)
        have o85_ := k67_.below hb83_ (by first | omega | (simp; omega) | simp)
        have o86_ := k68_.below hb83_ (by first | omega | (simp; omega) | simp)
        have o87_ := (hb83_.cell (p := ⟨w1.heap.size, 0, none⟩) (by first | omega | (simp; omega) | simp)).trans k69_
        have o88_ := (hb83_.cell (p := ⟨w1.heap.size, 1, none⟩) (by first | omega | (simp; omega) | simp)).trans k70_
        have o89_ := (hb83_.cell (p := ⟨w23.heap.size, 0, none⟩) (by first | omega | (simp; omega) | simp)).trans k71_
        have o90_ := (hb83_.cell (p := ⟨w23.heap.size, 1, none⟩) (by first | omega | (simp; omega) | simp)).trans k72_
        have z91_ := hb83_.size
        have B92_ := k80_.trans (hb83_.mono (by first | omega | (simp; omega) | simp))
        clear hb83_
        have h93_ : v52_ = (max (S - E) 0) := by rw [← Hv52_.out]; exact worthOf_other HOK.out hs0 hs1 HS.out
        have h93_b : (v52_ == (max (S - E) 0)) = true := by simpa using h93_
        have h93_n : (v52_ != (max (S - E) 0)) = false := by simpa using h93_
        have h93_le : v52_ ≤ (max (S - E) 0) := by omega
        have h93_ge : (max (S - E) 0) ≤ v52_ := by omega
        have Hh93_ := Lib.hid h93_
        clear h93_
        have h94_ : v52_ = ((S - E) + v62_) := by rw [← Hv52_.out, ← Hv62_.out]; exact worthOf_other2 HOK.out hs0 hs1 HS.out
        have h94_b : (v52_ == ((S - E) + v62_)) = true := by simpa using h94_
        have h94_n : (v52_ != ((S - E) + v62_)) = false := by simpa using h94_
        have h94_le : v52_ ≤ ((S - E) + v62_) := by omega
        have h94_ge : ((S - E) + v62_) ≤ v52_ := by omega
        have Hh94_ := Lib.hid h94_
        clear h94_
        go_wp2
        go_ret
        exact ⟨ret_bool (by first | exact rfl | exact h94_b.trans rfl), B92_⟩

set_option maxRecDepth 10000 in
set_option maxHeartbeats 400000 in
theorem fnWorthOther_big (A0 : Option Addr) (c0 : Nat) (bs : List Int) (w : World) (hl : ¬ bs.length ≤ 1048576) (hm : bs.length ≤ 9223372036854775807) :
    Calls Try.prog 8 #[.slice A0 bs.length c0] w fun e w' => e = .returned (.bool true) ∧ Below w.heap.size w w' := by
  go_enter Try.func8, Try.ntmps8
  go_wp2
  go_ret
  exact ⟨rfl, Below.refl _ _⟩

theorem fnWorthOther_all (A0 : Option Addr) (c0 : Nat) (bs : List Int) (w : World) (h0 : Bytes w w.heap.size A0 bs) (hm : bs.length ≤ 9223372036854775807) (hc0 : bs.length ≤ c0) :
    Calls Try.prog 8 #[.slice A0 bs.length c0] w fun e w' => e = .returned (.bool true) ∧ Below w.heap.size w w' := by
  by_cases hl : bs.length ≤ 1048576
  · exact fnWorthOther_walk A0 c0 bs w h0 hl hc0
  · exact fnWorthOther_big A0 c0 bs w hl hm

end Go.Proofs.Ythhcjomfpjopdaa
