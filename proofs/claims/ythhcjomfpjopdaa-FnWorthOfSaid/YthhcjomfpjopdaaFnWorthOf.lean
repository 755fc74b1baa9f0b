/-
  The law of WorthOf returns true for every two codes, and writes nothing that was there. No condition.
-/
import Derived.Test.YthhcjomfpjopdaaGA
import Derived.Test.YthhcjomfpjopdaaDrawW
import Derived.Test.YthhcjomfpjopdaaGame
import Derived.Test.YthhcjomfpjopdaaGame6I
import Derived.Test.YthhcjomfpjopdaaGB
import Derived.Test.YthhcjomfpjopdaaFx
import Derived.Deep.RegionHeld3
namespace Go.Proofs.Ythhcjomfpjopdaa
open Go.RowKit

set_option maxRecDepth 10000 in
set_option maxHeartbeats 4000000 in
theorem fnWorthOf_walk (A0 : Option Addr) (c0 : Nat) (bs : List Int) (B0 : Option Addr) (d0 : Nat) (ds : List Int) (w : World) (h0 : Bytes w w.heap.size A0 bs) (h1 : Bytes w w.heap.size B0 ds) (hl : bs.length ≤ 1048576) (hl1 : ds.length ≤ 1048576) (hc0 : bs.length ≤ c0) (hd0 : ds.length ≤ d0) :
    Calls Try.prog 3 #[.slice A0 bs.length c0, .slice B0 ds.length d0] w fun e w' => e = .returned (.bool true) ∧ Below w.heap.size w w' := by
  have hlm : bs.length ≤ 9223372036854775807 := by omega
  have hlm1 : ds.length ≤ 9223372036854775807 := by omega
  go_enter Try.func3, Try.ntmps3
  have Htrue : Hid True := trivial
  have hc0u := hc0
  have h0u := h0
  have hlmu := hlm
  have hd0u := hd0
  have h1u := h1
  have hlm1u := hlm1
  go_wp2_with fail
  refine (drawWorthOf_any A0 c0 bs _ (h0.more (by first | omega | (simp; omega) | simp)) hlm hc0).mono ?_
  rintro e w1 ⟨E, A3_, c4_, xs, s, hx5, hs, rfl, ho5_, hb2_⟩
  have o6_ := h0.below hb2_ (by first | omega | (simp; omega) | simp)
  have o7_ := h1.below hb2_ (by first | omega | (simp; omega) | simp)
  have z8_ := hb2_.size
  have B9_ := (Below.refl w.heap.size w).trans (hb2_.mono (by first | omega | (simp; omega) | simp))
  clear hb2_
  have hlbsxs : xs.length ≤ 1152921504606846976 := by omega
  obtain ⟨hsl, hsu⟩ := hs
  obtain ⟨hp1, hp2⟩ := pow_set hx5
  have o10_ := o6_.below ((Below.refl _ _).alloc (Nat.le_refl _) (.cells #[.int .i64 E, .slice A3_ xs.length c4_] 25)) (by first | omega | (simp; omega) | simp)
  have o11_ := o7_.below ((Below.refl _ _).alloc (Nat.le_refl _) (.cells #[.int .i64 E, .slice A3_ xs.length c4_] 25)) (by first | omega | (simp; omega) | simp)
  have o12_ := ho5_.alloc (by first | omega | (simp; omega) | simp) (.cells #[.int .i64 E, .slice A3_ xs.length c4_] 25)
  have B13_ := B9_.alloc (by first | omega | (simp; omega) | simp) (.cells #[.int .i64 E, .slice A3_ xs.length c4_] 25)
  have a14_ : (w1.alloc (.cells #[.int .i64 E, .slice A3_ xs.length c4_] 25)).cell? ⟨w1.heap.size, 0, none⟩ = some (.int .i64 E) := by simp [go_sem]
  have a15_ : (w1.alloc (.cells #[.int .i64 E, .slice A3_ xs.length c4_] 25)).cell? ⟨w1.heap.size, 1, none⟩ = some (.slice A3_ xs.length c4_) := by simp [go_sem]
  go_wp2_with fail
  refine (implWorthOf_any E A3_ c4_ xs s _ _ _ o12_.ints (by first | omega | (simp; omega) | simp) (by omega)).mono ?_
  rintro e w16 ⟨he, hb16_⟩
  obtain ⟨v17_, hv17_⟩ : ∃ v, worthOf E xs s = v := ⟨_, rfl⟩
  rw [hv17_] at he
  subst he
  have bv17_ : -1 ≤ v17_ ∧ v17_ ≤ 48 := by rw [← hv17_]; exact worthOf_bd _ _ _
  obtain ⟨bv17_1, bv17_2⟩ := bv17_
  have Hv17_ := Lib.hid hv17_
  clear hv17_
  have o18_ := o10_.below hb16_ (by first | omega | (simp; omega) | simp)
  have o19_ := o11_.below hb16_ (by first | omega | (simp; omega) | simp)
  have o20_ := o12_.below hb16_ (by first | omega | (simp; omega) | simp)
  have o21_ := (hb16_.cell (p := ⟨w1.heap.size, 0, none⟩) (by first | omega | (simp; omega) | simp)).trans a14_
  have o22_ := (hb16_.cell (p := ⟨w1.heap.size, 1, none⟩) (by first | omega | (simp; omega) | simp)).trans a15_
  have z23_ := hb16_.size
  try simp at z23_
  have B24_ := B13_.trans (hb16_.mono (by first | omega | (simp; omega) | simp))
  clear hb16_
  go_wp2_with fail
  refine (specWorthOf_any E A3_ c4_ xs s _ _ _ o20_.ints (by first | omega | (simp; omega) | simp) (by omega)).mono ?_
  rintro e w25 ⟨he, hb25_⟩
  rw [Hv17_.out] at he
  subst he
  have o26_ := o18_.below hb25_ (by first | omega | (simp; omega) | simp)
  have o27_ := o19_.below hb25_ (by first | omega | (simp; omega) | simp)
  have o28_ := o20_.below hb25_ (by first | omega | (simp; omega) | simp)
  have o29_ := (hb25_.cell (p := ⟨w1.heap.size, 0, none⟩) (by first | omega | (simp; omega) | simp)).trans o21_
  have o30_ := (hb25_.cell (p := ⟨w1.heap.size, 1, none⟩) (by first | omega | (simp; omega) | simp)).trans o22_
  have z31_ := hb25_.size
  have B32_ := B24_.trans (hb25_.mono (by first | omega | (simp; omega) | simp))
  clear hb25_
  by_cases h33_ : v17_ < 0
  · have h33_d : decide (v17_ < 0) = true := decide_eq_true h33_
    have h34_ : v17_ = -1 := by rw [← Hv17_.out]; exact worthOf_neg (by rw [Hv17_.out]; omega)
    have h34_b : (v17_ == -1) = true := by simpa using h34_
    have h34_n : (v17_ != -1) = false := by simpa using h34_
    have h34_le : v17_ ≤ -1 := by omega
    have h34_ge : -1 ≤ v17_ := by omega
    have Hh34_ := Lib.hid h34_
    clear h34_
    go_wp2_with fail
    refine (alive_any _).mono ?_
    rintro e w35 ⟨rfl, hb35_⟩
    have o36_ := o26_.below hb35_ (by first | omega | (simp; omega) | simp)
    have o37_ := o27_.below hb35_ (by first | omega | (simp; omega) | simp)
    have o38_ := o28_.below hb35_ (by first | omega | (simp; omega) | simp)
    have o39_ := (hb35_.cell (p := ⟨w1.heap.size, 0, none⟩) (by first | omega | (simp; omega) | simp)).trans o29_
    have o40_ := (hb35_.cell (p := ⟨w1.heap.size, 1, none⟩) (by first | omega | (simp; omega) | simp)).trans o30_
    have z41_ := hb35_.size
    have B42_ := B32_.trans (hb35_.mono (by first | omega | (simp; omega) | simp))
    clear hb35_
    go_wp2
    go_ret
    exact ⟨ret_bool (by first | exact rfl | exact h34_b.trans rfl), B42_⟩
  · have h33_d : decide (v17_ < 0) = false := decide_eq_false h33_
    obtain ⟨hok, hs0, hs1⟩ := worthOf_ok (E := E) (xs := xs) (s := s) (by rw [Hv17_.out]; omega)
    have hbd := caseOk_bd hok
    have HOK := Lib.hid hok
    clear hok
    by_cases h34_ : (ds.length : Int) > 0
    · have h34_d : decide ((ds.length : Int) > 0) = true := decide_eq_true h34_
      obtain ⟨b35_, f36_, rfl, b35_h, c38_, v37_l, v37_u⟩ := o27_.at_ (k := 0) (by omega)
      generalize ds[0] = v37_ at c38_ v37_l v37_u
      have c38_ : w25.cell? ⟨b35_, f36_, none⟩ = some (.int .u8 v37_) := c38_
      have v37_w : IntKind.i64.wrap v37_ = v37_ := IntWalk.i64_in _ (by omega)
      have c38_i : 0 < (ds.length : Int) := by omega
      obtain ⟨B39_, hB39_⟩ : ∃ B, bits .and .i64 v37_ ((2 ^ xs.length) - 1) = B := ⟨_, rfl⟩
      have bB39_ := and_mask (n := xs.length) (a := v37_) (by omega) hx5
      rw [hB39_] at bB39_
      obtain ⟨bB39_1, bB39_2⟩ := bB39_
      obtain ⟨v40_, hv40_⟩ : ∃ v, worthOf E xs B39_ = v := ⟨_, rfl⟩
      have bv40_ : -1 ≤ v40_ ∧ v40_ ≤ 48 := by rw [← hv40_]; exact worthOf_bd _ _ _
      obtain ⟨bv40_1, bv40_2⟩ := bv40_
      have Hv40_ := Lib.hid hv40_
      clear hv40_
      obtain ⟨v41_, hv41_⟩ : ∃ v, worthOf E xs (bits .or .i64 s B39_) = v := ⟨_, rfl⟩
      have bv41_ : -1 ≤ v41_ ∧ v41_ ≤ 48 := by rw [← hv41_]; exact worthOf_bd _ _ _
      obtain ⟨bv41_1, bv41_2⟩ := bv41_
      have Hv41_ := Lib.hid hv41_
      clear hv41_
      obtain ⟨v42_, hv42_⟩ : ∃ v, worthOf E xs (bits .and .i64 s B39_) = v := ⟨_, rfl⟩
      have bv42_ : -1 ≤ v42_ ∧ v42_ ≤ 48 := by rw [← hv42_]; exact worthOf_bd _ _ _
      obtain ⟨bv42_1, bv42_2⟩ := bv42_
      have Hv42_ := Lib.hid hv42_
      clear hv42_
      have h43_ : (v17_ + v40_) ≤ (v41_ + v42_) := by rw [← Hv17_.out, ← Hv40_.out, ← Hv41_.out, ← Hv42_.out]; exact worthOf_super HOK.out ⟨hs0, hs1⟩ ⟨by omega, by omega⟩
      have h43_d : decide ((v17_ + v40_) ≤ (v41_ + v42_)) = true := decide_eq_true h43_
      obtain ⟨v44_, hv44_⟩ : ∃ v, worthOf E xs ((2 ^ xs.length) - 1) = v := ⟨_, rfl⟩
      have bv44_ : -1 ≤ v44_ ∧ v44_ ≤ 48 := by rw [← hv44_]; exact worthOf_bd _ _ _
      obtain ⟨bv44_1, bv44_2⟩ := bv44_
      have Hv44_ := Lib.hid hv44_
      clear hv44_
      have h45_ : v44_ = E := by rw [← Hv44_.out]; exact worthOf_all HOK.out
      have h45_b : (v44_ == E) = true := by simpa using h45_
      have h45_n : (v44_ != E) = false := by simpa using h45_
      have h45_le : v44_ ≤ E := by omega
      have h45_ge : E ≤ v44_ := by omega
      have Hh45_ := Lib.hid h45_
      clear h45_
      obtain ⟨v46_, hv46_⟩ : ∃ v, worthOf E xs 0 = v := ⟨_, rfl⟩
      have bv46_ : -1 ≤ v46_ ∧ v46_ ≤ 48 := by rw [← hv46_]; exact worthOf_bd _ _ _
      obtain ⟨bv46_1, bv46_2⟩ := bv46_
      have Hv46_ := Lib.hid hv46_
      clear hv46_
      have h47_ : v46_ = 0 := by rw [← Hv46_.out]; exact worthOf_none HOK.out
      have h47_b : (v46_ == 0) = true := by simpa using h47_
      have h47_n : (v46_ != 0) = false := by simpa using h47_
      have h47_le : v46_ ≤ 0 := by omega
      have h47_ge : 0 ≤ v46_ := by omega
      have Hh47_ := Lib.hid h47_
      clear h47_
      obtain ⟨v48_, hv48_⟩ : ∃ v, worthOf E xs (2 ^ xs.length) = v := ⟨_, rfl⟩
      have bv48_ : -1 ≤ v48_ ∧ v48_ ≤ 48 := by rw [← hv48_]; exact worthOf_bd _ _ _
      obtain ⟨bv48_1, bv48_2⟩ := bv48_
      have Hv48_ := Lib.hid hv48_
      clear hv48_
      have h49_ : v48_ = -1 := by rw [← Hv48_.out]; exact worthOf_far E xs
      have h49_b : (v48_ == -1) = true := by simpa using h49_
      have h49_n : (v48_ != -1) = false := by simpa using h49_
      have h49_le : v48_ ≤ -1 := by omega
      have h49_ge : -1 ≤ v48_ := by omega
      have Hh49_ := Lib.hid h49_
      clear h49_
      have hw50_ : IntKind.i64.wrap (v17_ + v40_) = (v17_ + v40_) := IntWalk.i64_in _ (by omega)
      have hw51_ : IntKind.i64.wrap (v41_ + v42_) = (v41_ + v42_) := IntWalk.i64_in _ (by omega)
      have hw52_ : IntKind.i64.wrap (2 ^ xs.length) = (2 ^ xs.length) := IntWalk.i64_in _ (by omega)
      have g58_ : w1.heap.size < w25.heap.size := (by first | omega | (simp; omega) | simp)
      have g59_ : w.heap.size ≤ w25.heap.size := (by first | omega | (simp; omega) | simp)
      have g60_ : w.heap.size ≤ w25.heap.size := (by first | omega | (simp; omega) | simp)
      have g61_ : w1.heap.size ≤ w25.heap.size := (by first | omega | (simp; omega) | simp)
      have g62_ : w.heap.size ≤ w25.heap.size := (by first | omega | (simp; omega) | simp)
      go_wp2_with fail
      refine wp_region_held_drew (S := (fun w' : World => Below w.heap.size w w' ∧ w25.heap.size ≤ w'.heap.size ∧ Bytes w' (w.heap.size) A0 bs ∧ Bytes w' (w.heap.size) (some ⟨b35_, f36_, none⟩) ds ∧ Own w' (w.heap.size) (w1.heap.size) A3_ xs ∧ w'.cell? ⟨w1.heap.size, 0, none⟩ = some (.int .i64 E) ∧ w'.cell? ⟨w1.heap.size, 1, none⟩ = some (.slice A3_ xs.length c4_) ∧ w25.heap.size ≤ w'.heap.size)) (by kernel_rfl) ⟨B32_.drew, by exact (by first | omega | (simp; omega) | simp), o26_, o27_, o28_, o29_, o30_, Nat.le_refl _⟩ (fun hHeld => ?_)
      refine wpAnyH_take (i := 0) (oi := ?oi1) (v := ?vv1) ?hi1 ?hs1 ?hf1 ?ha1 ?hq1 ?hy1 hHeld ?hr1
      case hi1 => (simp only [List.getElem?_toArray, List.getElem?_cons_zero]; exact rfl)
      case hs1 => kernel_rfl
      case hf1 => kernel_rfl
      case ha1 => kernel_rfl
      case hq1 => exact fun _ _ _ h => h
      case hy1 =>
        refine Or.inl ⟨by rfl, ?_⟩
        intro w' hSw
        try dsimp only at hSw
        go_simp
        first | done | with_reducible rfl
      simp only [Act.put, List.setIfInBounds_toArray, List.set_cons_succ, List.set_cons_zero]
      refine wpAnyH_take (i := 1) (oi := ?oi2) (v := ?vv2) ?hi2 ?hs2 ?hf2 ?ha2 ?hq2 ?hy2 hHeld ?hr2
      case hi2 => (simp only [List.getElem?_toArray, List.getElem?_cons_succ, List.getElem?_cons_zero]; exact rfl)
      case hs2 => kernel_rfl
      case hf2 => kernel_rfl
      case ha2 => kernel_rfl
      case hq2 => exact fun _ _ _ h => h
      case hy2 =>
        refine Or.inl ⟨by rfl, ?_⟩
        intro w' hSw
        try dsimp only at hSw
        go_simp
        first | done | with_reducible rfl
      simp only [Act.put, List.setIfInBounds_toArray, List.set_cons_succ, List.set_cons_zero]
      refine wpAnyH_take (i := 2) (oi := ?oi3) (v := ?vv3) ?hi3 ?hs3 ?hf3 ?ha3 ?hq3 ?hy3 hHeld ?hr3
      case hi3 => (simp only [List.getElem?_toArray, List.getElem?_cons_succ, List.getElem?_cons_zero]; exact rfl)
      case hs3 => kernel_rfl
      case hf3 => kernel_rfl
      case ha3 => kernel_rfl
      case hq3 => exact fun _ _ _ h => h
      case hy3 =>
        refine Or.inl ⟨by rfl, ?_⟩
        intro w' hSw
        try dsimp only at hSw
        go_simp
        first | done | with_reducible rfl
      simp only [Act.put, List.setIfInBounds_toArray, List.set_cons_succ, List.set_cons_zero]
      refine wpAnyH_take (i := 5) (oi := ?oi4) (v := ?vv4) ?hi4 ?hs4 ?hf4 ?ha4 ?hq4 ?hy4 hHeld ?hr4
      case hi4 => (simp only [List.getElem?_toArray, List.getElem?_cons_succ, List.getElem?_cons_zero]; exact rfl)
      case hs4 => kernel_rfl
      case hf4 => kernel_rfl
      case ha4 => kernel_rfl
      case hq4 => exact fun _ _ _ h => h
      case hy4 =>
        refine Or.inl ⟨by rfl, ?_⟩
        intro w' hSw
        try dsimp only at hSw
        go_simp
        first | done | with_reducible rfl
      simp only [Act.put, List.setIfInBounds_toArray, List.set_cons_succ, List.set_cons_zero]
      refine wpAnyH_take (i := 6) (oi := ?oi5) (v := ?vv5) ?hi5 ?hs5 ?hf5 ?ha5 ?hq5 ?hy5 hHeld ?hr5
      case hi5 => (simp only [List.getElem?_toArray, List.getElem?_cons_succ, List.getElem?_cons_zero]; exact rfl)
      case hs5 => kernel_rfl
      case hf5 => kernel_rfl
      case ha5 => kernel_rfl
      case hq5 => exact fun _ _ _ h => h
      case hy5 =>
        refine Or.inl ⟨by rfl, ?_⟩
        intro w' hSw
        try dsimp only at hSw
        go_simp
        first | done | with_reducible rfl
      simp only [Act.put, List.setIfInBounds_toArray, List.set_cons_succ, List.set_cons_zero]
      refine wpAnyH_take (i := 7) (oi := ?oi6) (v := ?vv6) ?hi6 ?hs6 ?hf6 ?ha6 ?hq6 ?hy6 hHeld ?hr6
      case hi6 => (simp only [List.getElem?_toArray, List.getElem?_cons_succ, List.getElem?_cons_zero]; exact rfl)
      case hs6 => kernel_rfl
      case hf6 => kernel_rfl
      case ha6 => kernel_rfl
      case hq6 => exact fun _ _ _ h => h
      case hy6 =>
        refine Or.inl ⟨by rfl, ?_⟩
        intro w' hSw
        try dsimp only at hSw
        go_simp
        first | done | with_reducible rfl
      simp only [Act.put, List.setIfInBounds_toArray, List.set_cons_succ, List.set_cons_zero]
      refine wpAnyH_take (i := 8) (oi := ?oi7) (v := ?vv7) ?hi7 ?hs7 ?hf7 ?ha7 ?hq7 ?hy7 hHeld ?hr7
      case hi7 => (simp only [List.getElem?_toArray, List.getElem?_cons_succ, List.getElem?_cons_zero]; exact rfl)
      case hs7 => kernel_rfl
      case hf7 => kernel_rfl
      case ha7 => kernel_rfl
      case hq7 => exact fun _ _ _ h => h
      case hy7 =>
        refine Or.inl ⟨by rfl, ?_⟩
        intro w' hSw
        try dsimp only at hSw
        go_simp
        first | done | with_reducible rfl
      simp only [Act.put, List.setIfInBounds_toArray, List.set_cons_succ, List.set_cons_zero]
      refine wpAnyH_take (i := 10) (oi := ?oi8) (v := ?vv8) ?hi8 ?hs8 ?hf8 ?ha8 ?hq8 ?hy8 hHeld ?hr8
      case hi8 => (simp only [List.getElem?_toArray, List.getElem?_cons_succ, List.getElem?_cons_zero]; exact rfl)
      case hs8 => kernel_rfl
      case hf8 => kernel_rfl
      case ha8 => kernel_rfl
      case hq8 => exact fun _ _ _ h => h
      case hy8 =>
        refine Or.inl ⟨by rfl, ?_⟩
        intro w' hSw
        try dsimp only at hSw
        go_simp
        first | done | with_reducible rfl
      simp only [Act.put, List.setIfInBounds_toArray, List.set_cons_succ, List.set_cons_zero]
      refine wpAnyH_take (i := 11) (oi := ?oi9) (v := ?vv9) ?hi9 ?hs9 ?hf9 ?ha9 ?hq9 ?hy9 hHeld ?hr9
      case hi9 => (simp only [List.getElem?_toArray, List.getElem?_cons_succ, List.getElem?_cons_zero]; exact rfl)
      case hs9 => kernel_rfl
      case hf9 => kernel_rfl
      case ha9 => kernel_rfl
      case hq9 => exact fun _ _ _ h => h
      case hy9 =>
        refine Or.inl ⟨by rfl, ?_⟩
        intro w' hSw
        try dsimp only at hSw
        go_simp
        first | done | with_reducible rfl
      simp only [Act.put, List.setIfInBounds_toArray, List.set_cons_succ, List.set_cons_zero]
      refine wpAnyH_take (i := 12) (oi := ?oi10) (v := ?vv10) ?hi10 ?hs10 ?hf10 ?ha10 ?hq10 ?hy10 hHeld ?hr10
      case hi10 => (simp only [List.getElem?_toArray, List.getElem?_cons_succ, List.getElem?_cons_zero]; exact rfl)
      case hs10 => kernel_rfl
      case hf10 => kernel_rfl
      case ha10 => kernel_rfl
      case hq10 => exact fun _ _ _ h => h
      case hy10 =>
        refine Or.inl ⟨by rfl, ?_⟩
        intro w' hSw
        try dsimp only at hSw
        go_simp
        first | done | with_reducible rfl
      simp only [Act.put, List.setIfInBounds_toArray, List.set_cons_succ, List.set_cons_zero]
      refine wpAnyH_take (i := 13) (oi := ?oi11) (v := ?vv11) ?hi11 ?hs11 ?hf11 ?ha11 ?hq11 ?hy11 hHeld ?hr11
      case hi11 => (simp only [List.getElem?_toArray, List.getElem?_cons_succ, List.getElem?_cons_zero]; exact rfl)
      case hs11 => kernel_rfl
      case hf11 => kernel_rfl
      case ha11 => kernel_rfl
      case hq11 => exact fun _ _ _ h => h
      case hy11 =>
        refine Or.inl ⟨by rfl, ?_⟩
        intro w' hSw
        try dsimp only at hSw
        go_simp
        first | done | with_reducible rfl
      simp only [Act.put, List.setIfInBounds_toArray, List.set_cons_succ, List.set_cons_zero]
      refine wpAnyH_ready (rs := [3]) (by kernel_rfl) (by simp) ?_
      refine AllReadyH.cons rfl (fun K hK => ?_) AllReadyH.nil
      go_simp
      go_at_call 15
      obtain ⟨BB, zz, k53_, k54_, k55_, k56_, k57_, zw⟩ := hHeld
      (with_reducible refine (below_is (implWorthOf_any E A3_ c4_ xs B39_ _ _ _ k55_.ints (by first | omega | (simp; omega) | simp) (by omega)) (congrArg (Value.int .i64) Hv40_.out)).mono ?_)
      rintro e w63 ⟨rfl, hb9⟩
      refine hK.out _ _ ⟨BB.trans (hb9.mono (by omega)), Nat.le_trans zz hb9.size, k53_.below hb9 (by first | omega | (simp; omega) | simp), k54_.below hb9 (by first | omega | (simp; omega) | simp), k55_.below hb9 (by first | omega | (simp; omega) | simp), (hb9.cell (p := ⟨w1.heap.size, 0, none⟩) (by first | omega | (simp; omega) | simp)).trans k56_, (hb9.cell (p := ⟨w1.heap.size, 1, none⟩) (by first | omega | (simp; omega) | simp)).trans k57_, Nat.le_trans zw hb9.size⟩ (fun hHeld => ?_)
      clear hb9 zw k57_ k56_ k55_ k54_ k53_ zz BB
      clear hK K
      try simp only [Act.put, List.setIfInBounds_toArray, List.set_cons_zero, List.set_cons_succ]
      refine wpAnyH_take (i := 4) (oi := ?oi12) (v := ?vv12) ?hi12 ?hs12 ?hf12 ?ha12 ?hq12 ?hy12 hHeld ?hr12
      case hi12 => (simp only [List.getElem?_toArray, List.getElem?_cons_succ, List.getElem?_cons_zero]; exact rfl)
      case hs12 => kernel_rfl
      case hf12 => kernel_rfl
      case ha12 => kernel_rfl
      case hq12 => exact fun _ _ _ h => h
      case hy12 =>
        refine Or.inl ⟨by rfl, ?_⟩
        intro w' hSw
        try dsimp only at hSw
        go_simp
        first | done | with_reducible rfl
      simp only [Act.put, List.setIfInBounds_toArray, List.set_cons_succ, List.set_cons_zero]
      refine wpAnyH_ready (rs := [9]) (by kernel_rfl) (by simp) ?_
      refine AllReadyH.cons rfl (fun K hK => ?_) AllReadyH.nil
      go_simp
      go_at_call 15
      obtain ⟨BB, zz, k53_, k54_, k55_, k56_, k57_, zw⟩ := hHeld
      (with_reducible refine (below_is (implWorthOf_any E A3_ c4_ xs (bits .or .i64 s B39_) _ _ _ k55_.ints (by first | omega | (simp; omega) | simp) (by omega)) (congrArg (Value.int .i64) Hv41_.out)).mono ?_)
      rintro e w64 ⟨rfl, hb9⟩
      refine hK.out _ _ ⟨BB.trans (hb9.mono (by omega)), Nat.le_trans zz hb9.size, k53_.below hb9 (by first | omega | (simp; omega) | simp), k54_.below hb9 (by first | omega | (simp; omega) | simp), k55_.below hb9 (by first | omega | (simp; omega) | simp), (hb9.cell (p := ⟨w1.heap.size, 0, none⟩) (by first | omega | (simp; omega) | simp)).trans k56_, (hb9.cell (p := ⟨w1.heap.size, 1, none⟩) (by first | omega | (simp; omega) | simp)).trans k57_, Nat.le_trans zw hb9.size⟩ (fun hHeld => ?_)
      clear hb9 zw k57_ k56_ k55_ k54_ k53_ zz BB
      clear hK K
      try simp only [Act.put, List.setIfInBounds_toArray, List.set_cons_zero, List.set_cons_succ]
      refine wpAnyH_ready (rs := [14]) (by kernel_rfl) (by simp) ?_
      refine AllReadyH.cons rfl (fun K hK => ?_) AllReadyH.nil
      go_simp
      go_at_call 15
      obtain ⟨BB, zz, k53_, k54_, k55_, k56_, k57_, zw⟩ := hHeld
      (with_reducible refine (below_is (implWorthOf_any E A3_ c4_ xs (bits .and .i64 s B39_) _ _ _ k55_.ints (by first | omega | (simp; omega) | simp) (by omega)) (congrArg (Value.int .i64) Hv42_.out)).mono ?_)
      rintro e w65 ⟨rfl, hb9⟩
      refine hK.out _ _ ⟨BB.trans (hb9.mono (by omega)), Nat.le_trans zz hb9.size, k53_.below hb9 (by first | omega | (simp; omega) | simp), k54_.below hb9 (by first | omega | (simp; omega) | simp), k55_.below hb9 (by first | omega | (simp; omega) | simp), (hb9.cell (p := ⟨w1.heap.size, 0, none⟩) (by first | omega | (simp; omega) | simp)).trans k56_, (hb9.cell (p := ⟨w1.heap.size, 1, none⟩) (by first | omega | (simp; omega) | simp)).trans k57_, Nat.le_trans zw hb9.size⟩ (fun hHeld => ?_)
      clear hb9 zw k57_ k56_ k55_ k54_ k53_ zz BB
      clear hK K
      try simp only [Act.put, List.setIfInBounds_toArray, List.set_cons_zero, List.set_cons_succ]
      refine wpAnyH_take (i := 15) (oi := ?oi13) (v := ?vv13) ?hi13 ?hs13 ?hf13 ?ha13 ?hq13 ?hy13 hHeld ?hr13
      case hi13 => (simp only [List.getElem?_toArray, List.getElem?_cons_succ, List.getElem?_cons_zero]; exact rfl)
      case hs13 => kernel_rfl
      case hf13 => kernel_rfl
      case ha13 => kernel_rfl
      case hq13 => exact fun _ _ _ h => h
      case hy13 =>
        refine Or.inl ⟨by rfl, ?_⟩
        intro w' hSw
        try dsimp only at hSw
        go_simp
        first | done | with_reducible rfl
      simp only [Act.put, List.setIfInBounds_toArray, List.set_cons_succ, List.set_cons_zero]
      refine wpAnyH_take (i := 16) (oi := ?oi14) (v := ?vv14) ?hi14 ?hs14 ?hf14 ?ha14 ?hq14 ?hy14 hHeld ?hr14
      case hi14 => (simp only [List.getElem?_toArray, List.getElem?_cons_succ, List.getElem?_cons_zero]; exact rfl)
      case hs14 => kernel_rfl
      case hf14 => kernel_rfl
      case ha14 => kernel_rfl
      case hq14 => exact fun _ _ _ h => h
      case hy14 =>
        refine Or.inl ⟨by rfl, ?_⟩
        intro w' hSw
        try dsimp only at hSw
        go_simp
        first | done | with_reducible rfl
      simp only [Act.put, List.setIfInBounds_toArray, List.set_cons_succ, List.set_cons_zero]
      refine wpAnyH_take (i := 17) (oi := ?oi15) (v := ?vv15) ?hi15 ?hs15 ?hf15 ?ha15 ?hq15 ?hy15 hHeld ?hr15
      case hi15 => (simp only [List.getElem?_toArray, List.getElem?_cons_succ, List.getElem?_cons_zero]; exact rfl)
      case hs15 => kernel_rfl
      case hf15 => kernel_rfl
      case ha15 => kernel_rfl
      case hq15 => exact fun _ _ _ h => h
      case hy15 =>
        refine Or.inl ⟨by rfl, ?_⟩
        intro w' hSw
        try dsimp only at hSw
        go_simp
        first | done | with_reducible rfl
      simp only [Act.put, List.setIfInBounds_toArray, List.set_cons_succ, List.set_cons_zero]
      refine wpAnyH_take (i := 18) (oi := ?oi16) (v := ?vv16) ?hi16 ?hs16 ?hf16 ?ha16 ?hq16 ?hy16 hHeld ?hr16
      case hi16 => (simp only [List.getElem?_toArray, List.getElem?_cons_succ, List.getElem?_cons_zero]; exact rfl)
      case hs16 => kernel_rfl
      case hf16 => kernel_rfl
      case ha16 => kernel_rfl
      case hq16 => exact fun _ _ _ h => h
      case hy16 =>
        refine Or.inl ⟨by rfl, ?_⟩
        intro w' hSw
        try dsimp only at hSw
        go_simp
        first | done | with_reducible rfl
      simp only [Act.put, List.setIfInBounds_toArray, List.set_cons_succ, List.set_cons_zero]
      refine wpAnyH_take (i := 19) (oi := ?oi17) (v := ?vv17) ?hi17 ?hs17 ?hf17 ?ha17 ?hq17 ?hy17 hHeld ?hr17
      case hi17 => (simp only [List.getElem?_toArray, List.getElem?_cons_succ, List.getElem?_cons_zero]; exact rfl)
      case hs17 => kernel_rfl
      case hf17 => kernel_rfl
      case ha17 => kernel_rfl
      case hq17 => exact fun _ _ _ h => h
      case hy17 =>
        refine Or.inl ⟨by rfl, ?_⟩
        intro w' hSw
        try dsimp only at hSw
        go_simp
        first | done | with_reducible rfl
      simp only [Act.put, List.setIfInBounds_toArray, List.set_cons_succ, List.set_cons_zero]
      refine wpAnyH_take (i := 21) (oi := ?oi18) (v := ?vv18) ?hi18 ?hs18 ?hf18 ?ha18 ?hq18 ?hy18 hHeld ?hr18
      case hi18 => (simp only [List.getElem?_toArray, List.getElem?_cons_succ, List.getElem?_cons_zero]; exact rfl)
      case hs18 => kernel_rfl
      case hf18 => kernel_rfl
      case ha18 => kernel_rfl
      case hq18 => exact fun _ _ _ h => h
      case hy18 =>
        refine Or.inl ⟨by rfl, ?_⟩
        intro w' hSw
        try dsimp only at hSw
        go_simp
        first | done | with_reducible rfl
      simp only [Act.put, List.setIfInBounds_toArray, List.set_cons_succ, List.set_cons_zero]
      refine wpAnyH_take (i := 22) (oi := ?oi19) (v := ?vv19) ?hi19 ?hs19 ?hf19 ?ha19 ?hq19 ?hy19 hHeld ?hr19
      case hi19 => (simp only [List.getElem?_toArray, List.getElem?_cons_succ, List.getElem?_cons_zero]; exact rfl)
      case hs19 => kernel_rfl
      case hf19 => kernel_rfl
      case ha19 => kernel_rfl
      case hq19 => exact fun _ _ _ h => h
      case hy19 =>
        refine Or.inl ⟨by rfl, ?_⟩
        intro w' hSw
        try dsimp only at hSw
        go_simp
        first | done | with_reducible rfl
      simp only [Act.put, List.setIfInBounds_toArray, List.set_cons_succ, List.set_cons_zero]
      refine wpAnyH_ready (rs := [20]) (by kernel_rfl) (by simp) ?_
      refine AllReadyH.cons rfl (fun K hK => ?_) AllReadyH.nil
      go_simp
      go_at_call 15
      obtain ⟨BB, zz, k53_, k54_, k55_, k56_, k57_, zw⟩ := hHeld
      (with_reducible refine (below_is (implWorthOf_any E A3_ c4_ xs ((2 ^ xs.length) - 1) _ _ _ k55_.ints (by first | omega | (simp; omega) | simp) (by omega)) (congrArg (Value.int .i64) Hv44_.out)).mono ?_)
      rintro e w66 ⟨rfl, hb9⟩
      refine hK.out _ _ ⟨BB.trans (hb9.mono (by omega)), Nat.le_trans zz hb9.size, k53_.below hb9 (by first | omega | (simp; omega) | simp), k54_.below hb9 (by first | omega | (simp; omega) | simp), k55_.below hb9 (by first | omega | (simp; omega) | simp), (hb9.cell (p := ⟨w1.heap.size, 0, none⟩) (by first | omega | (simp; omega) | simp)).trans k56_, (hb9.cell (p := ⟨w1.heap.size, 1, none⟩) (by first | omega | (simp; omega) | simp)).trans k57_, Nat.le_trans zw hb9.size⟩ (fun hHeld => ?_)
      clear hb9 zw k57_ k56_ k55_ k54_ k53_ zz BB
      clear hK K
      try simp only [Act.put, List.setIfInBounds_toArray, List.set_cons_zero, List.set_cons_succ]
      refine wpAnyH_take (i := 23) (oi := ?oi20) (v := ?vv20) ?hi20 ?hs20 ?hf20 ?ha20 ?hq20 ?hy20 hHeld ?hr20
      case hi20 => (simp only [List.getElem?_toArray, List.getElem?_cons_succ, List.getElem?_cons_zero]; exact rfl)
      case hs20 => kernel_rfl
      case hf20 => kernel_rfl
      case ha20 => kernel_rfl
      case hq20 => exact fun _ _ _ h => h
      case hy20 =>
        refine Or.inl ⟨by rfl, ?_⟩
        intro w' hSw
        try dsimp only at hSw
        go_simp
        first | done | with_reducible rfl
      simp only [Act.put, List.setIfInBounds_toArray, List.set_cons_succ, List.set_cons_zero]
      refine wpAnyH_take (i := 24) (oi := ?oi21) (v := ?vv21) ?hi21 ?hs21 ?hf21 ?ha21 ?hq21 ?hy21 hHeld ?hr21
      case hi21 => (simp only [List.getElem?_toArray, List.getElem?_cons_succ, List.getElem?_cons_zero]; exact rfl)
      case hs21 => kernel_rfl
      case hf21 => kernel_rfl
      case ha21 => kernel_rfl
      case hq21 => exact fun _ _ _ h => h
      case hy21 =>
        refine Or.inl ⟨by rfl, ?_⟩
        intro w' hSw
        try dsimp only at hSw
        go_simp
        first | done | with_reducible rfl
      simp only [Act.put, List.setIfInBounds_toArray, List.set_cons_succ, List.set_cons_zero]
      refine wpAnyH_take (i := 25) (oi := ?oi22) (v := ?vv22) ?hi22 ?hs22 ?hf22 ?ha22 ?hq22 ?hy22 hHeld ?hr22
      case hi22 => (simp only [List.getElem?_toArray, List.getElem?_cons_succ, List.getElem?_cons_zero]; exact rfl)
      case hs22 => kernel_rfl
      case hf22 => kernel_rfl
      case ha22 => kernel_rfl
      case hq22 => exact fun _ _ _ h => h
      case hy22 =>
        refine Or.inl ⟨by rfl, ?_⟩
        intro w' hSw
        try dsimp only at hSw
        go_simp
        first | done | with_reducible rfl
      simp only [Act.put, List.setIfInBounds_toArray, List.set_cons_succ, List.set_cons_zero]
      refine wpAnyH_take (i := 26) (oi := ?oi23) (v := ?vv23) ?hi23 ?hs23 ?hf23 ?ha23 ?hq23 ?hy23 hHeld ?hr23
      case hi23 => (simp only [List.getElem?_toArray, List.getElem?_cons_succ, List.getElem?_cons_zero]; exact rfl)
      case hs23 => kernel_rfl
      case hf23 => kernel_rfl
      case ha23 => kernel_rfl
      case hq23 => exact fun _ _ _ h => h
      case hy23 =>
        refine Or.inl ⟨by rfl, ?_⟩
        intro w' hSw
        try dsimp only at hSw
        go_simp
        first | done | with_reducible rfl
      simp only [Act.put, List.setIfInBounds_toArray, List.set_cons_succ, List.set_cons_zero]
      refine wpAnyH_ready (rs := [27]) (by kernel_rfl) (by simp) ?_
      refine AllReadyH.cons rfl (fun K hK => ?_) AllReadyH.nil
      go_simp
      go_at_call 15
      obtain ⟨BB, zz, k53_, k54_, k55_, k56_, k57_, zw⟩ := hHeld
      (with_reducible refine (below_is (implWorthOf_any E A3_ c4_ xs 0 _ _ _ k55_.ints (by first | omega | (simp; omega) | simp) (by omega)) (congrArg (Value.int .i64) Hv46_.out)).mono ?_)
      rintro e w67 ⟨rfl, hb9⟩
      refine hK.out _ _ ⟨BB.trans (hb9.mono (by omega)), Nat.le_trans zz hb9.size, k53_.below hb9 (by first | omega | (simp; omega) | simp), k54_.below hb9 (by first | omega | (simp; omega) | simp), k55_.below hb9 (by first | omega | (simp; omega) | simp), (hb9.cell (p := ⟨w1.heap.size, 0, none⟩) (by first | omega | (simp; omega) | simp)).trans k56_, (hb9.cell (p := ⟨w1.heap.size, 1, none⟩) (by first | omega | (simp; omega) | simp)).trans k57_, Nat.le_trans zw hb9.size⟩ (fun hHeld => ?_)
      clear hb9 zw k57_ k56_ k55_ k54_ k53_ zz BB
      clear hK K
      try simp only [Act.put, List.setIfInBounds_toArray, List.set_cons_zero, List.set_cons_succ]
      refine wpAnyH_take (i := 28) (oi := ?oi24) (v := ?vv24) ?hi24 ?hs24 ?hf24 ?ha24 ?hq24 ?hy24 hHeld ?hr24
      case hi24 => (simp only [List.getElem?_toArray, List.getElem?_cons_succ, List.getElem?_cons_zero]; exact rfl)
      case hs24 => kernel_rfl
      case hf24 => kernel_rfl
      case ha24 => kernel_rfl
      case hq24 => exact fun _ _ _ h => h
      case hy24 =>
        refine Or.inl ⟨by rfl, ?_⟩
        intro w' hSw
        try dsimp only at hSw
        go_simp
        first | done | with_reducible rfl
      simp only [Act.put, List.setIfInBounds_toArray, List.set_cons_succ, List.set_cons_zero]
      refine wpAnyH_take (i := 29) (oi := ?oi25) (v := ?vv25) ?hi25 ?hs25 ?hf25 ?ha25 ?hq25 ?hy25 hHeld ?hr25
      case hi25 => (simp only [List.getElem?_toArray, List.getElem?_cons_succ, List.getElem?_cons_zero]; exact rfl)
      case hs25 => kernel_rfl
      case hf25 => kernel_rfl
      case ha25 => kernel_rfl
      case hq25 => exact fun _ _ _ h => h
      case hy25 =>
        refine Or.inl ⟨by rfl, ?_⟩
        intro w' hSw
        try dsimp only at hSw
        go_simp
        first | done | with_reducible rfl
      simp only [Act.put, List.setIfInBounds_toArray, List.set_cons_succ, List.set_cons_zero]
      refine wpAnyH_take (i := 30) (oi := ?oi26) (v := ?vv26) ?hi26 ?hs26 ?hf26 ?ha26 ?hq26 ?hy26 hHeld ?hr26
      case hi26 => (simp only [List.getElem?_toArray, List.getElem?_cons_succ, List.getElem?_cons_zero]; exact rfl)
      case hs26 => kernel_rfl
      case hf26 => kernel_rfl
      case ha26 => kernel_rfl
      case hq26 => exact fun _ _ _ h => h
      case hy26 =>
        refine Or.inl ⟨by rfl, ?_⟩
        intro w' hSw
        try dsimp only at hSw
        go_simp
        first | done | with_reducible rfl
      simp only [Act.put, List.setIfInBounds_toArray, List.set_cons_succ, List.set_cons_zero]
      refine wpAnyH_take (i := 31) (oi := ?oi27) (v := ?vv27) ?hi27 ?hs27 ?hf27 ?ha27 ?hq27 ?hy27 hHeld ?hr27
      case hi27 => (simp only [List.getElem?_toArray, List.getElem?_cons_succ, List.getElem?_cons_zero]; exact rfl)
      case hs27 => kernel_rfl
      case hf27 => kernel_rfl
      case ha27 => kernel_rfl
      case hq27 => exact fun _ _ _ h => h
      case hy27 =>
        refine Or.inl ⟨by rfl, ?_⟩
        intro w' hSw
        try dsimp only at hSw
        go_simp
        first | done | with_reducible rfl
      simp only [Act.put, List.setIfInBounds_toArray, List.set_cons_succ, List.set_cons_zero]
      refine wpAnyH_take (i := 32) (oi := ?oi28) (v := ?vv28) ?hi28 ?hs28 ?hf28 ?ha28 ?hq28 ?hy28 hHeld ?hr28
      case hi28 => (simp only [List.getElem?_toArray, List.getElem?_cons_succ, List.getElem?_cons_zero]; exact rfl)
      case hs28 => kernel_rfl
      case hf28 => kernel_rfl
      case ha28 => kernel_rfl
      case hq28 => exact fun _ _ _ h => h
      case hy28 =>
        refine Or.inl ⟨by rfl, ?_⟩
        intro w' hSw
        try dsimp only at hSw
        go_simp
        first | done | with_reducible rfl
      simp only [Act.put, List.setIfInBounds_toArray, List.set_cons_succ, List.set_cons_zero]
      refine wpAnyH_take (i := 33) (oi := ?oi29) (v := ?vv29) ?hi29 ?hs29 ?hf29 ?ha29 ?hq29 ?hy29 hHeld ?hr29
      case hi29 => (simp only [List.getElem?_toArray, List.getElem?_cons_succ, List.getElem?_cons_zero]; exact rfl)
      case hs29 => kernel_rfl
      case hf29 => kernel_rfl
      case ha29 => kernel_rfl
      case hq29 => exact fun _ _ _ h => h
      case hy29 =>
        refine Or.inl ⟨by rfl, ?_⟩
        intro w' hSw
        try dsimp only at hSw
        go_simp
        first | done | with_reducible rfl
      simp only [Act.put, List.setIfInBounds_toArray, List.set_cons_succ, List.set_cons_zero]
      refine wpAnyH_ready (rs := [34]) (by kernel_rfl) (by simp) ?_
      refine AllReadyH.cons rfl (fun K hK => ?_) AllReadyH.nil
      go_simp
      go_at_call 15
      obtain ⟨BB, zz, k53_, k54_, k55_, k56_, k57_, zw⟩ := hHeld
      (with_reducible refine (below_is (implWorthOf_any E A3_ c4_ xs (2 ^ xs.length) _ _ _ k55_.ints (by first | omega | (simp; omega) | simp) (by omega)) (congrArg (Value.int .i64) Hv48_.out)).mono ?_)
      rintro e w68 ⟨rfl, hb9⟩
      refine hK.out _ _ ⟨BB.trans (hb9.mono (by omega)), Nat.le_trans zz hb9.size, k53_.below hb9 (by first | omega | (simp; omega) | simp), k54_.below hb9 (by first | omega | (simp; omega) | simp), k55_.below hb9 (by first | omega | (simp; omega) | simp), (hb9.cell (p := ⟨w1.heap.size, 0, none⟩) (by first | omega | (simp; omega) | simp)).trans k56_, (hb9.cell (p := ⟨w1.heap.size, 1, none⟩) (by first | omega | (simp; omega) | simp)).trans k57_, Nat.le_trans zw hb9.size⟩ (fun hHeld => ?_)
      clear hb9 zw k57_ k56_ k55_ k54_ k53_ zz BB
      clear hK K
      try simp only [Act.put, List.setIfInBounds_toArray, List.set_cons_zero, List.set_cons_succ]
      refine wpAnyH_take (i := 35) (oi := ?oi30) (v := ?vv30) ?hi30 ?hs30 ?hf30 ?ha30 ?hq30 ?hy30 hHeld ?hr30
      case hi30 => (simp only [List.getElem?_toArray, List.getElem?_cons_succ, List.getElem?_cons_zero]; exact rfl)
      case hs30 => kernel_rfl
      case hf30 => kernel_rfl
      case ha30 => kernel_rfl
      case hq30 => exact fun _ _ _ h => h
      case hy30 =>
        refine Or.inl ⟨by rfl, ?_⟩
        intro w' hSw
        try dsimp only at hSw
        go_simp
        first | done | with_reducible rfl
      simp only [Act.put, List.setIfInBounds_toArray, List.set_cons_succ, List.set_cons_zero]
      refine wpAnyH_take (i := 36) (oi := ?oi31) (v := ?vv31) ?hi31 ?hs31 ?hf31 ?ha31 ?hq31 ?hy31 hHeld ?hr31
      case hi31 => (simp only [List.getElem?_toArray, List.getElem?_cons_succ, List.getElem?_cons_zero]; exact rfl)
      case hs31 => kernel_rfl
      case hf31 => kernel_rfl
      case ha31 => kernel_rfl
      case hq31 => exact fun _ _ _ h => h
      case hy31 =>
        refine Or.inl ⟨by rfl, ?_⟩
        intro w' hSw
        try dsimp only at hSw
        go_simp
        first | done | with_reducible rfl
      simp only [Act.put, List.setIfInBounds_toArray, List.set_cons_succ, List.set_cons_zero]
      refine wpAnyH_take (i := 37) (oi := ?oi32) (v := ?vv32) ?hi32 ?hs32 ?hf32 ?ha32 ?hq32 ?hy32 hHeld ?hr32
      case hi32 => (simp only [List.getElem?_toArray, List.getElem?_cons_succ, List.getElem?_cons_zero]; exact rfl)
      case hs32 => kernel_rfl
      case hf32 => kernel_rfl
      case ha32 => kernel_rfl
      case hq32 => exact fun _ _ _ h => h
      case hy32 =>
        refine Or.inl ⟨by rfl, ?_⟩
        intro w' hSw
        try dsimp only at hSw
        go_simp
        first | done | with_reducible rfl
      simp only [Act.put, List.setIfInBounds_toArray, List.set_cons_succ, List.set_cons_zero]
      refine wpAnyH_done (by kernel_rfl) ?_ _
      obtain ⟨BB, zz, k53_, k54_, k55_, k56_, k57_, zw⟩ := hHeld
      clear hw50_ hw51_ hw52_
      have k69_ := BB
      clear BB
      have k70_ := zz
      clear zz
      have k71_ := zw
      clear zw
      go_wp2
      go_ret
      exact ⟨ret_bool (by first | exact rfl | exact h49_b.trans rfl), k69_⟩
    · have h34_d : decide ((ds.length : Int) > 0) = false := decide_eq_false h34_
      obtain ⟨v35_, hv35_⟩ : ∃ v, worthOf E xs 0 = v := ⟨_, rfl⟩
      have bv35_ : -1 ≤ v35_ ∧ v35_ ≤ 48 := by rw [← hv35_]; exact worthOf_bd _ _ _
      obtain ⟨bv35_1, bv35_2⟩ := bv35_
      have Hv35_ := Lib.hid hv35_
      clear hv35_
      obtain ⟨v36_, hv36_⟩ : ∃ v, worthOf E xs (bits .or .i64 s 0) = v := ⟨_, rfl⟩
      have bv36_ : -1 ≤ v36_ ∧ v36_ ≤ 48 := by rw [← hv36_]; exact worthOf_bd _ _ _
      obtain ⟨bv36_1, bv36_2⟩ := bv36_
      have Hv36_ := Lib.hid hv36_
      clear hv36_
      obtain ⟨v37_, hv37_⟩ : ∃ v, worthOf E xs (bits .and .i64 s 0) = v := ⟨_, rfl⟩
      have bv37_ : -1 ≤ v37_ ∧ v37_ ≤ 48 := by rw [← hv37_]; exact worthOf_bd _ _ _
      obtain ⟨bv37_1, bv37_2⟩ := bv37_
      have Hv37_ := Lib.hid hv37_
      clear hv37_
      have h38_ : (v17_ + v35_) ≤ (v36_ + v37_) := by rw [← Hv17_.out, ← Hv35_.out, ← Hv36_.out, ← Hv37_.out]; exact worthOf_super HOK.out ⟨hs0, hs1⟩ ⟨by omega, by omega⟩
      have h38_d : decide ((v17_ + v35_) ≤ (v36_ + v37_)) = true := decide_eq_true h38_
      obtain ⟨v39_, hv39_⟩ : ∃ v, worthOf E xs ((2 ^ xs.length) - 1) = v := ⟨_, rfl⟩
      have bv39_ : -1 ≤ v39_ ∧ v39_ ≤ 48 := by rw [← hv39_]; exact worthOf_bd _ _ _
      obtain ⟨bv39_1, bv39_2⟩ := bv39_
      have Hv39_ := Lib.hid hv39_
      clear hv39_
      have h40_ : v39_ = E := by rw [← Hv39_.out]; exact worthOf_all HOK.out
      have h40_b : (v39_ == E) = true := by simpa using h40_
      have h40_n : (v39_ != E) = false := by simpa using h40_
      have h40_le : v39_ ≤ E := by omega
      have h40_ge : E ≤ v39_ := by omega
      have Hh40_ := Lib.hid h40_
      clear h40_
      have h41_ : v35_ = 0 := by rw [← Hv35_.out]; exact worthOf_none HOK.out
      have h41_b : (v35_ == 0) = true := by simpa using h41_
      have h41_n : (v35_ != 0) = false := by simpa using h41_
      have h41_le : v35_ ≤ 0 := by omega
      have h41_ge : 0 ≤ v35_ := by omega
      have Hh41_ := Lib.hid h41_
      clear h41_
      obtain ⟨v42_, hv42_⟩ : ∃ v, worthOf E xs (2 ^ xs.length) = v := ⟨_, rfl⟩
      have bv42_ : -1 ≤ v42_ ∧ v42_ ≤ 48 := by rw [← hv42_]; exact worthOf_bd _ _ _
      obtain ⟨bv42_1, bv42_2⟩ := bv42_
      have Hv42_ := Lib.hid hv42_
      clear hv42_
      have h43_ : v42_ = -1 := by rw [← Hv42_.out]; exact worthOf_far E xs
      have h43_b : (v42_ == -1) = true := by simpa using h43_
      have h43_n : (v42_ != -1) = false := by simpa using h43_
      have h43_le : v42_ ≤ -1 := by omega
      have h43_ge : -1 ≤ v42_ := by omega
      have Hh43_ := Lib.hid h43_
      clear h43_
      have hw44_ : IntKind.i64.wrap (v17_ + v35_) = (v17_ + v35_) := IntWalk.i64_in _ (by omega)
      have hw45_ : IntKind.i64.wrap (v36_ + v37_) = (v36_ + v37_) := IntWalk.i64_in _ (by omega)
      have hw46_ : IntKind.i64.wrap (2 ^ xs.length) = (2 ^ xs.length) := IntWalk.i64_in _ (by omega)
      have g52_ : w1.heap.size < w25.heap.size := (by first | omega | (simp; omega) | simp)
      have g53_ : w.heap.size ≤ w25.heap.size := (by first | omega | (simp; omega) | simp)
      have g54_ : w.heap.size ≤ w25.heap.size := (by first | omega | (simp; omega) | simp)
      have g55_ : w1.heap.size ≤ w25.heap.size := (by first | omega | (simp; omega) | simp)
      have g56_ : w.heap.size ≤ w25.heap.size := (by first | omega | (simp; omega) | simp)
      go_wp2_with fail
      refine wp_region_held_drew (S := (fun w' : World => Below w.heap.size w w' ∧ w25.heap.size ≤ w'.heap.size ∧ Bytes w' (w.heap.size) A0 bs ∧ Bytes w' (w.heap.size) B0 ds ∧ Own w' (w.heap.size) (w1.heap.size) A3_ xs ∧ w'.cell? ⟨w1.heap.size, 0, none⟩ = some (.int .i64 E) ∧ w'.cell? ⟨w1.heap.size, 1, none⟩ = some (.slice A3_ xs.length c4_) ∧ w25.heap.size ≤ w'.heap.size)) (by kernel_rfl) ⟨B32_.drew, by exact (by first | omega | (simp; omega) | simp), o26_, o27_, o28_, o29_, o30_, Nat.le_refl _⟩ (fun hHeld => ?_)
      refine wpAnyH_take (i := 0) (oi := ?oi33) (v := ?vv33) ?hi33 ?hs33 ?hf33 ?ha33 ?hq33 ?hy33 hHeld ?hr33
      case hi33 => (simp only [List.getElem?_toArray, List.getElem?_cons_zero]; exact rfl)
      case hs33 => kernel_rfl
      case hf33 => kernel_rfl
      case ha33 => kernel_rfl
      case hq33 => exact fun _ _ _ h => h
      case hy33 =>
        refine Or.inl ⟨by rfl, ?_⟩
        intro w' hSw
        try dsimp only at hSw
        go_simp
        first | done | with_reducible rfl
      simp only [Act.put, List.setIfInBounds_toArray, List.set_cons_succ, List.set_cons_zero]
      refine wpAnyH_take (i := 1) (oi := ?oi34) (v := ?vv34) ?hi34 ?hs34 ?hf34 ?ha34 ?hq34 ?hy34 hHeld ?hr34
      case hi34 => (simp only [List.getElem?_toArray, List.getElem?_cons_succ, List.getElem?_cons_zero]; exact rfl)
      case hs34 => kernel_rfl
      case hf34 => kernel_rfl
      case ha34 => kernel_rfl
      case hq34 => exact fun _ _ _ h => h
      case hy34 =>
        refine Or.inl ⟨by rfl, ?_⟩
        intro w' hSw
        try dsimp only at hSw
        go_simp
        first | done | with_reducible rfl
      simp only [Act.put, List.setIfInBounds_toArray, List.set_cons_succ, List.set_cons_zero]
      refine wpAnyH_take (i := 2) (oi := ?oi35) (v := ?vv35) ?hi35 ?hs35 ?hf35 ?ha35 ?hq35 ?hy35 hHeld ?hr35
      case hi35 => (simp only [List.getElem?_toArray, List.getElem?_cons_succ, List.getElem?_cons_zero]; exact rfl)
      case hs35 => kernel_rfl
      case hf35 => kernel_rfl
      case ha35 => kernel_rfl
      case hq35 => exact fun _ _ _ h => h
      case hy35 =>
        refine Or.inl ⟨by rfl, ?_⟩
        intro w' hSw
        try dsimp only at hSw
        go_simp
        first | done | with_reducible rfl
      simp only [Act.put, List.setIfInBounds_toArray, List.set_cons_succ, List.set_cons_zero]
      refine wpAnyH_take (i := 5) (oi := ?oi36) (v := ?vv36) ?hi36 ?hs36 ?hf36 ?ha36 ?hq36 ?hy36 hHeld ?hr36
      case hi36 => (simp only [List.getElem?_toArray, List.getElem?_cons_succ, List.getElem?_cons_zero]; exact rfl)
      case hs36 => kernel_rfl
      case hf36 => kernel_rfl
      case ha36 => kernel_rfl
      case hq36 => exact fun _ _ _ h => h
      case hy36 =>
        refine Or.inl ⟨by rfl, ?_⟩
        intro w' hSw
        try dsimp only at hSw
        go_simp
        first | done | with_reducible rfl
      simp only [Act.put, List.setIfInBounds_toArray, List.set_cons_succ, List.set_cons_zero]
      refine wpAnyH_take (i := 6) (oi := ?oi37) (v := ?vv37) ?hi37 ?hs37 ?hf37 ?ha37 ?hq37 ?hy37 hHeld ?hr37
      case hi37 => (simp only [List.getElem?_toArray, List.getElem?_cons_succ, List.getElem?_cons_zero]; exact rfl)
      case hs37 => kernel_rfl
      case hf37 => kernel_rfl
      case ha37 => kernel_rfl
      case hq37 => exact fun _ _ _ h => h
      case hy37 =>
        refine Or.inl ⟨by rfl, ?_⟩
        intro w' hSw
        try dsimp only at hSw
        go_simp
        first | done | with_reducible rfl
      simp only [Act.put, List.setIfInBounds_toArray, List.set_cons_succ, List.set_cons_zero]
      refine wpAnyH_take (i := 7) (oi := ?oi38) (v := ?vv38) ?hi38 ?hs38 ?hf38 ?ha38 ?hq38 ?hy38 hHeld ?hr38
      case hi38 => (simp only [List.getElem?_toArray, List.getElem?_cons_succ, List.getElem?_cons_zero]; exact rfl)
      case hs38 => kernel_rfl
      case hf38 => kernel_rfl
      case ha38 => kernel_rfl
      case hq38 => exact fun _ _ _ h => h
      case hy38 =>
        refine Or.inl ⟨by rfl, ?_⟩
        intro w' hSw
        try dsimp only at hSw
        go_simp
        first | done | with_reducible rfl
      simp only [Act.put, List.setIfInBounds_toArray, List.set_cons_succ, List.set_cons_zero]
      refine wpAnyH_take (i := 8) (oi := ?oi39) (v := ?vv39) ?hi39 ?hs39 ?hf39 ?ha39 ?hq39 ?hy39 hHeld ?hr39
      case hi39 => (simp only [List.getElem?_toArray, List.getElem?_cons_succ, List.getElem?_cons_zero]; exact rfl)
      case hs39 => kernel_rfl
      case hf39 => kernel_rfl
      case ha39 => kernel_rfl
      case hq39 => exact fun _ _ _ h => h
      case hy39 =>
        refine Or.inl ⟨by rfl, ?_⟩
        intro w' hSw
        try dsimp only at hSw
        go_simp
        first | done | with_reducible rfl
      simp only [Act.put, List.setIfInBounds_toArray, List.set_cons_succ, List.set_cons_zero]
      refine wpAnyH_take (i := 10) (oi := ?oi40) (v := ?vv40) ?hi40 ?hs40 ?hf40 ?ha40 ?hq40 ?hy40 hHeld ?hr40
      case hi40 => (simp only [List.getElem?_toArray, List.getElem?_cons_succ, List.getElem?_cons_zero]; exact rfl)
      case hs40 => kernel_rfl
      case hf40 => kernel_rfl
      case ha40 => kernel_rfl
      case hq40 => exact fun _ _ _ h => h
      case hy40 =>
        refine Or.inl ⟨by rfl, ?_⟩
        intro w' hSw
        try dsimp only at hSw
        go_simp
        first | done | with_reducible rfl
      simp only [Act.put, List.setIfInBounds_toArray, List.set_cons_succ, List.set_cons_zero]
      refine wpAnyH_take (i := 11) (oi := ?oi41) (v := ?vv41) ?hi41 ?hs41 ?hf41 ?ha41 ?hq41 ?hy41 hHeld ?hr41
      case hi41 => (simp only [List.getElem?_toArray, List.getElem?_cons_succ, List.getElem?_cons_zero]; exact rfl)
      case hs41 => kernel_rfl
      case hf41 => kernel_rfl
      case ha41 => kernel_rfl
      case hq41 => exact fun _ _ _ h => h
      case hy41 =>
        refine Or.inl ⟨by rfl, ?_⟩
        intro w' hSw
        try dsimp only at hSw
        go_simp
        first | done | with_reducible rfl
      simp only [Act.put, List.setIfInBounds_toArray, List.set_cons_succ, List.set_cons_zero]
      refine wpAnyH_take (i := 12) (oi := ?oi42) (v := ?vv42) ?hi42 ?hs42 ?hf42 ?ha42 ?hq42 ?hy42 hHeld ?hr42
      case hi42 => (simp only [List.getElem?_toArray, List.getElem?_cons_succ, List.getElem?_cons_zero]; exact rfl)
      case hs42 => kernel_rfl
      case hf42 => kernel_rfl
      case ha42 => kernel_rfl
      case hq42 => exact fun _ _ _ h => h
      case hy42 =>
        refine Or.inl ⟨by rfl, ?_⟩
        intro w' hSw
        try dsimp only at hSw
        go_simp
        first | done | with_reducible rfl
      simp only [Act.put, List.setIfInBounds_toArray, List.set_cons_succ, List.set_cons_zero]
      refine wpAnyH_take (i := 13) (oi := ?oi43) (v := ?vv43) ?hi43 ?hs43 ?hf43 ?ha43 ?hq43 ?hy43 hHeld ?hr43
      case hi43 => (simp only [List.getElem?_toArray, List.getElem?_cons_succ, List.getElem?_cons_zero]; exact rfl)
      case hs43 => kernel_rfl
      case hf43 => kernel_rfl
      case ha43 => kernel_rfl
      case hq43 => exact fun _ _ _ h => h
      case hy43 =>
        refine Or.inl ⟨by rfl, ?_⟩
        intro w' hSw
        try dsimp only at hSw
        go_simp
        first | done | with_reducible rfl
      simp only [Act.put, List.setIfInBounds_toArray, List.set_cons_succ, List.set_cons_zero]
      refine wpAnyH_ready (rs := [3]) (by kernel_rfl) (by simp) ?_
      refine AllReadyH.cons rfl (fun K hK => ?_) AllReadyH.nil
      go_simp
      go_at_call 15
      obtain ⟨BB, zz, k47_, k48_, k49_, k50_, k51_, zw⟩ := hHeld
      (with_reducible refine (below_is (implWorthOf_any E A3_ c4_ xs 0 _ _ _ k49_.ints (by first | omega | (simp; omega) | simp) (by omega)) (congrArg (Value.int .i64) Hv35_.out)).mono ?_)
      rintro e w57 ⟨rfl, hb9⟩
      refine hK.out _ _ ⟨BB.trans (hb9.mono (by omega)), Nat.le_trans zz hb9.size, k47_.below hb9 (by first | omega | (simp; omega) | simp), k48_.below hb9 (by first | omega | (simp; omega) | simp), k49_.below hb9 (by first | omega | (simp; omega) | simp), (hb9.cell (p := ⟨w1.heap.size, 0, none⟩) (by first | omega | (simp; omega) | simp)).trans k50_, (hb9.cell (p := ⟨w1.heap.size, 1, none⟩) (by first | omega | (simp; omega) | simp)).trans k51_, Nat.le_trans zw hb9.size⟩ (fun hHeld => ?_)
      clear hb9 zw k51_ k50_ k49_ k48_ k47_ zz BB
      clear hK K
      try simp only [Act.put, List.setIfInBounds_toArray, List.set_cons_zero, List.set_cons_succ]
      refine wpAnyH_take (i := 4) (oi := ?oi44) (v := ?vv44) ?hi44 ?hs44 ?hf44 ?ha44 ?hq44 ?hy44 hHeld ?hr44
      case hi44 => (simp only [List.getElem?_toArray, List.getElem?_cons_succ, List.getElem?_cons_zero]; exact rfl)
      case hs44 => kernel_rfl
      case hf44 => kernel_rfl
      case ha44 => kernel_rfl
      case hq44 => exact fun _ _ _ h => h
      case hy44 =>
        refine Or.inl ⟨by rfl, ?_⟩
        intro w' hSw
        try dsimp only at hSw
        go_simp
        first | done | with_reducible rfl
      simp only [Act.put, List.setIfInBounds_toArray, List.set_cons_succ, List.set_cons_zero]
      refine wpAnyH_ready (rs := [9]) (by kernel_rfl) (by simp) ?_
      refine AllReadyH.cons rfl (fun K hK => ?_) AllReadyH.nil
      go_simp
      go_at_call 15
      obtain ⟨BB, zz, k47_, k48_, k49_, k50_, k51_, zw⟩ := hHeld
      (with_reducible refine (below_is (implWorthOf_any E A3_ c4_ xs (bits .or .i64 s 0) _ _ _ k49_.ints (by first | omega | (simp; omega) | simp) (by omega)) (congrArg (Value.int .i64) Hv36_.out)).mono ?_)
      rintro e w58 ⟨rfl, hb9⟩
      refine hK.out _ _ ⟨BB.trans (hb9.mono (by omega)), Nat.le_trans zz hb9.size, k47_.below hb9 (by first | omega | (simp; omega) | simp), k48_.below hb9 (by first | omega | (simp; omega) | simp), k49_.below hb9 (by first | omega | (simp; omega) | simp), (hb9.cell (p := ⟨w1.heap.size, 0, none⟩) (by first | omega | (simp; omega) | simp)).trans k50_, (hb9.cell (p := ⟨w1.heap.size, 1, none⟩) (by first | omega | (simp; omega) | simp)).trans k51_, Nat.le_trans zw hb9.size⟩ (fun hHeld => ?_)
      clear hb9 zw k51_ k50_ k49_ k48_ k47_ zz BB
      clear hK K
      try simp only [Act.put, List.setIfInBounds_toArray, List.set_cons_zero, List.set_cons_succ]
      refine wpAnyH_ready (rs := [14]) (by kernel_rfl) (by simp) ?_
      refine AllReadyH.cons rfl (fun K hK => ?_) AllReadyH.nil
      go_simp
      go_at_call 15
      obtain ⟨BB, zz, k47_, k48_, k49_, k50_, k51_, zw⟩ := hHeld
      (with_reducible refine (below_is (implWorthOf_any E A3_ c4_ xs (bits .and .i64 s 0) _ _ _ k49_.ints (by first | omega | (simp; omega) | simp) (by omega)) (congrArg (Value.int .i64) Hv37_.out)).mono ?_)
      rintro e w59 ⟨rfl, hb9⟩
      refine hK.out _ _ ⟨BB.trans (hb9.mono (by omega)), Nat.le_trans zz hb9.size, k47_.below hb9 (by first | omega | (simp; omega) | simp), k48_.below hb9 (by first | omega | (simp; omega) | simp), k49_.below hb9 (by first | omega | (simp; omega) | simp), (hb9.cell (p := ⟨w1.heap.size, 0, none⟩) (by first | omega | (simp; omega) | simp)).trans k50_, (hb9.cell (p := ⟨w1.heap.size, 1, none⟩) (by first | omega | (simp; omega) | simp)).trans k51_, Nat.le_trans zw hb9.size⟩ (fun hHeld => ?_)
      clear hb9 zw k51_ k50_ k49_ k48_ k47_ zz BB
      clear hK K
      try simp only [Act.put, List.setIfInBounds_toArray, List.set_cons_zero, List.set_cons_succ]
      refine wpAnyH_take (i := 15) (oi := ?oi45) (v := ?vv45) ?hi45 ?hs45 ?hf45 ?ha45 ?hq45 ?hy45 hHeld ?hr45
      case hi45 => (simp only [List.getElem?_toArray, List.getElem?_cons_succ, List.getElem?_cons_zero]; exact rfl)
      case hs45 => kernel_rfl
      case hf45 => kernel_rfl
      case ha45 => kernel_rfl
      case hq45 => exact fun _ _ _ h => h
      case hy45 =>
        refine Or.inl ⟨by rfl, ?_⟩
        intro w' hSw
        try dsimp only at hSw
        go_simp
        first | done | with_reducible rfl
      simp only [Act.put, List.setIfInBounds_toArray, List.set_cons_succ, List.set_cons_zero]
      refine wpAnyH_take (i := 16) (oi := ?oi46) (v := ?vv46) ?hi46 ?hs46 ?hf46 ?ha46 ?hq46 ?hy46 hHeld ?hr46
      case hi46 => (simp only [List.getElem?_toArray, List.getElem?_cons_succ, List.getElem?_cons_zero]; exact rfl)
      case hs46 => kernel_rfl
      case hf46 => kernel_rfl
      case ha46 => kernel_rfl
      case hq46 => exact fun _ _ _ h => h
      case hy46 =>
        refine Or.inl ⟨by rfl, ?_⟩
        intro w' hSw
        try dsimp only at hSw
        go_simp
        first | done | with_reducible rfl
      simp only [Act.put, List.setIfInBounds_toArray, List.set_cons_succ, List.set_cons_zero]
      refine wpAnyH_take (i := 17) (oi := ?oi47) (v := ?vv47) ?hi47 ?hs47 ?hf47 ?ha47 ?hq47 ?hy47 hHeld ?hr47
      case hi47 => (simp only [List.getElem?_toArray, List.getElem?_cons_succ, List.getElem?_cons_zero]; exact rfl)
      case hs47 => kernel_rfl
      case hf47 => kernel_rfl
      case ha47 => kernel_rfl
      case hq47 => exact fun _ _ _ h => h
      case hy47 =>
        refine Or.inl ⟨by rfl, ?_⟩
        intro w' hSw
        try dsimp only at hSw
        go_simp
        first | done | with_reducible rfl
      simp only [Act.put, List.setIfInBounds_toArray, List.set_cons_succ, List.set_cons_zero]
      refine wpAnyH_take (i := 18) (oi := ?oi48) (v := ?vv48) ?hi48 ?hs48 ?hf48 ?ha48 ?hq48 ?hy48 hHeld ?hr48
      case hi48 => (simp only [List.getElem?_toArray, List.getElem?_cons_succ, List.getElem?_cons_zero]; exact rfl)
      case hs48 => kernel_rfl
      case hf48 => kernel_rfl
      case ha48 => kernel_rfl
      case hq48 => exact fun _ _ _ h => h
      case hy48 =>
        refine Or.inl ⟨by rfl, ?_⟩
        intro w' hSw
        try dsimp only at hSw
        go_simp
        first | done | with_reducible rfl
      simp only [Act.put, List.setIfInBounds_toArray, List.set_cons_succ, List.set_cons_zero]
      refine wpAnyH_take (i := 19) (oi := ?oi49) (v := ?vv49) ?hi49 ?hs49 ?hf49 ?ha49 ?hq49 ?hy49 hHeld ?hr49
      case hi49 => (simp only [List.getElem?_toArray, List.getElem?_cons_succ, List.getElem?_cons_zero]; exact rfl)
      case hs49 => kernel_rfl
      case hf49 => kernel_rfl
      case ha49 => kernel_rfl
      case hq49 => exact fun _ _ _ h => h
      case hy49 =>
        refine Or.inl ⟨by rfl, ?_⟩
        intro w' hSw
        try dsimp only at hSw
        go_simp
        first | done | with_reducible rfl
      simp only [Act.put, List.setIfInBounds_toArray, List.set_cons_succ, List.set_cons_zero]
      refine wpAnyH_take (i := 21) (oi := ?oi50) (v := ?vv50) ?hi50 ?hs50 ?hf50 ?ha50 ?hq50 ?hy50 hHeld ?hr50
      case hi50 => (simp only [List.getElem?_toArray, List.getElem?_cons_succ, List.getElem?_cons_zero]; exact rfl)
      case hs50 => kernel_rfl
      case hf50 => kernel_rfl
      case ha50 => kernel_rfl
      case hq50 => exact fun _ _ _ h => h
      case hy50 =>
        refine Or.inl ⟨by rfl, ?_⟩
        intro w' hSw
        try dsimp only at hSw
        go_simp
        first | done | with_reducible rfl
      simp only [Act.put, List.setIfInBounds_toArray, List.set_cons_succ, List.set_cons_zero]
      refine wpAnyH_take (i := 22) (oi := ?oi51) (v := ?vv51) ?hi51 ?hs51 ?hf51 ?ha51 ?hq51 ?hy51 hHeld ?hr51
      case hi51 => (simp only [List.getElem?_toArray, List.getElem?_cons_succ, List.getElem?_cons_zero]; exact rfl)
      case hs51 => kernel_rfl
      case hf51 => kernel_rfl
      case ha51 => kernel_rfl
      case hq51 => exact fun _ _ _ h => h
      case hy51 =>
        refine Or.inl ⟨by rfl, ?_⟩
        intro w' hSw
        try dsimp only at hSw
        go_simp
        first | done | with_reducible rfl
      simp only [Act.put, List.setIfInBounds_toArray, List.set_cons_succ, List.set_cons_zero]
      refine wpAnyH_ready (rs := [20]) (by kernel_rfl) (by simp) ?_
      refine AllReadyH.cons rfl (fun K hK => ?_) AllReadyH.nil
      go_simp
      go_at_call 15
      obtain ⟨BB, zz, k47_, k48_, k49_, k50_, k51_, zw⟩ := hHeld
      (with_reducible refine (below_is (implWorthOf_any E A3_ c4_ xs ((2 ^ xs.length) - 1) _ _ _ k49_.ints (by first | omega | (simp; omega) | simp) (by omega)) (congrArg (Value.int .i64) Hv39_.out)).mono ?_)
      rintro e w60 ⟨rfl, hb9⟩
      refine hK.out _ _ ⟨BB.trans (hb9.mono (by omega)), Nat.le_trans zz hb9.size, k47_.below hb9 (by first | omega | (simp; omega) | simp), k48_.below hb9 (by first | omega | (simp; omega) | simp), k49_.below hb9 (by first | omega | (simp; omega) | simp), (hb9.cell (p := ⟨w1.heap.size, 0, none⟩) (by first | omega | (simp; omega) | simp)).trans k50_, (hb9.cell (p := ⟨w1.heap.size, 1, none⟩) (by first | omega | (simp; omega) | simp)).trans k51_, Nat.le_trans zw hb9.size⟩ (fun hHeld => ?_)
      clear hb9 zw k51_ k50_ k49_ k48_ k47_ zz BB
      clear hK K
      try simp only [Act.put, List.setIfInBounds_toArray, List.set_cons_zero, List.set_cons_succ]
      refine wpAnyH_take (i := 23) (oi := ?oi52) (v := ?vv52) ?hi52 ?hs52 ?hf52 ?ha52 ?hq52 ?hy52 hHeld ?hr52
      case hi52 => (simp only [List.getElem?_toArray, List.getElem?_cons_succ, List.getElem?_cons_zero]; exact rfl)
      case hs52 => kernel_rfl
      case hf52 => kernel_rfl
      case ha52 => kernel_rfl
      case hq52 => exact fun _ _ _ h => h
      case hy52 =>
        refine Or.inl ⟨by rfl, ?_⟩
        intro w' hSw
        try dsimp only at hSw
        go_simp
        first | done | with_reducible rfl
      simp only [Act.put, List.setIfInBounds_toArray, List.set_cons_succ, List.set_cons_zero]
      refine wpAnyH_take (i := 24) (oi := ?oi53) (v := ?vv53) ?hi53 ?hs53 ?hf53 ?ha53 ?hq53 ?hy53 hHeld ?hr53
      case hi53 => (simp only [List.getElem?_toArray, List.getElem?_cons_succ, List.getElem?_cons_zero]; exact rfl)
      case hs53 => kernel_rfl
      case hf53 => kernel_rfl
      case ha53 => kernel_rfl
      case hq53 => exact fun _ _ _ h => h
      case hy53 =>
        refine Or.inl ⟨by rfl, ?_⟩
        intro w' hSw
        try dsimp only at hSw
        go_simp
        first | done | with_reducible rfl
      simp only [Act.put, List.setIfInBounds_toArray, List.set_cons_succ, List.set_cons_zero]
      refine wpAnyH_take (i := 25) (oi := ?oi54) (v := ?vv54) ?hi54 ?hs54 ?hf54 ?ha54 ?hq54 ?hy54 hHeld ?hr54
      case hi54 => (simp only [List.getElem?_toArray, List.getElem?_cons_succ, List.getElem?_cons_zero]; exact rfl)
      case hs54 => kernel_rfl
      case hf54 => kernel_rfl
      case ha54 => kernel_rfl
      case hq54 => exact fun _ _ _ h => h
      case hy54 =>
        refine Or.inl ⟨by rfl, ?_⟩
        intro w' hSw
        try dsimp only at hSw
        go_simp
        first | done | with_reducible rfl
      simp only [Act.put, List.setIfInBounds_toArray, List.set_cons_succ, List.set_cons_zero]
      refine wpAnyH_take (i := 26) (oi := ?oi55) (v := ?vv55) ?hi55 ?hs55 ?hf55 ?ha55 ?hq55 ?hy55 hHeld ?hr55
      case hi55 => (simp only [List.getElem?_toArray, List.getElem?_cons_succ, List.getElem?_cons_zero]; exact rfl)
      case hs55 => kernel_rfl
      case hf55 => kernel_rfl
      case ha55 => kernel_rfl
      case hq55 => exact fun _ _ _ h => h
      case hy55 =>
        refine Or.inl ⟨by rfl, ?_⟩
        intro w' hSw
        try dsimp only at hSw
        go_simp
        first | done | with_reducible rfl
      simp only [Act.put, List.setIfInBounds_toArray, List.set_cons_succ, List.set_cons_zero]
      refine wpAnyH_ready (rs := [27]) (by kernel_rfl) (by simp) ?_
      refine AllReadyH.cons rfl (fun K hK => ?_) AllReadyH.nil
      go_simp
      go_at_call 15
      obtain ⟨BB, zz, k47_, k48_, k49_, k50_, k51_, zw⟩ := hHeld
      (with_reducible refine (below_is (implWorthOf_any E A3_ c4_ xs 0 _ _ _ k49_.ints (by first | omega | (simp; omega) | simp) (by omega)) (congrArg (Value.int .i64) Hv35_.out)).mono ?_)
      rintro e w61 ⟨rfl, hb9⟩
      refine hK.out _ _ ⟨BB.trans (hb9.mono (by omega)), Nat.le_trans zz hb9.size, k47_.below hb9 (by first | omega | (simp; omega) | simp), k48_.below hb9 (by first | omega | (simp; omega) | simp), k49_.below hb9 (by first | omega | (simp; omega) | simp), (hb9.cell (p := ⟨w1.heap.size, 0, none⟩) (by first | omega | (simp; omega) | simp)).trans k50_, (hb9.cell (p := ⟨w1.heap.size, 1, none⟩) (by first | omega | (simp; omega) | simp)).trans k51_, Nat.le_trans zw hb9.size⟩ (fun hHeld => ?_)
      clear hb9 zw k51_ k50_ k49_ k48_ k47_ zz BB
      clear hK K
      try simp only [Act.put, List.setIfInBounds_toArray, List.set_cons_zero, List.set_cons_succ]
      refine wpAnyH_take (i := 28) (oi := ?oi56) (v := ?vv56) ?hi56 ?hs56 ?hf56 ?ha56 ?hq56 ?hy56 hHeld ?hr56
      case hi56 => (simp only [List.getElem?_toArray, List.getElem?_cons_succ, List.getElem?_cons_zero]; exact rfl)
      case hs56 => kernel_rfl
      case hf56 => kernel_rfl
      case ha56 => kernel_rfl
      case hq56 => exact fun _ _ _ h => h
      case hy56 =>
        refine Or.inl ⟨by rfl, ?_⟩
        intro w' hSw
        try dsimp only at hSw
        go_simp
        first | done | with_reducible rfl
      simp only [Act.put, List.setIfInBounds_toArray, List.set_cons_succ, List.set_cons_zero]
      refine wpAnyH_take (i := 29) (oi := ?oi57) (v := ?vv57) ?hi57 ?hs57 ?hf57 ?ha57 ?hq57 ?hy57 hHeld ?hr57
      case hi57 => (simp only [List.getElem?_toArray, List.getElem?_cons_succ, List.getElem?_cons_zero]; exact rfl)
      case hs57 => kernel_rfl
      case hf57 => kernel_rfl
      case ha57 => kernel_rfl
      case hq57 => exact fun _ _ _ h => h
      case hy57 =>
        refine Or.inl ⟨by rfl, ?_⟩
        intro w' hSw
        try dsimp only at hSw
        go_simp
        first | done | with_reducible rfl
      simp only [Act.put, List.setIfInBounds_toArray, List.set_cons_succ, List.set_cons_zero]
      refine wpAnyH_take (i := 30) (oi := ?oi58) (v := ?vv58) ?hi58 ?hs58 ?hf58 ?ha58 ?hq58 ?hy58 hHeld ?hr58
      case hi58 => (simp only [List.getElem?_toArray, List.getElem?_cons_succ, List.getElem?_cons_zero]; exact rfl)
      case hs58 => kernel_rfl
      case hf58 => kernel_rfl
      case ha58 => kernel_rfl
      case hq58 => exact fun _ _ _ h => h
      case hy58 =>
        refine Or.inl ⟨by rfl, ?_⟩
        intro w' hSw
        try dsimp only at hSw
        go_simp
        first | done | with_reducible rfl
      simp only [Act.put, List.setIfInBounds_toArray, List.set_cons_succ, List.set_cons_zero]
      refine wpAnyH_take (i := 31) (oi := ?oi59) (v := ?vv59) ?hi59 ?hs59 ?hf59 ?ha59 ?hq59 ?hy59 hHeld ?hr59
      case hi59 => (simp only [List.getElem?_toArray, List.getElem?_cons_succ, List.getElem?_cons_zero]; exact rfl)
      case hs59 => kernel_rfl
      case hf59 => kernel_rfl
      case ha59 => kernel_rfl
      case hq59 => exact fun _ _ _ h => h
      case hy59 =>
        refine Or.inl ⟨by rfl, ?_⟩
        intro w' hSw
        try dsimp only at hSw
        go_simp
        first | done | with_reducible rfl
      simp only [Act.put, List.setIfInBounds_toArray, List.set_cons_succ, List.set_cons_zero]
      refine wpAnyH_take (i := 32) (oi := ?oi60) (v := ?vv60) ?hi60 ?hs60 ?hf60 ?ha60 ?hq60 ?hy60 hHeld ?hr60
      case hi60 => (simp only [List.getElem?_toArray, List.getElem?_cons_succ, List.getElem?_cons_zero]; exact rfl)
      case hs60 => kernel_rfl
      case hf60 => kernel_rfl
      case ha60 => kernel_rfl
      case hq60 => exact fun _ _ _ h => h
      case hy60 =>
        refine Or.inl ⟨by rfl, ?_⟩
        intro w' hSw
        try dsimp only at hSw
        go_simp
        first | done | with_reducible rfl
      simp only [Act.put, List.setIfInBounds_toArray, List.set_cons_succ, List.set_cons_zero]
      refine wpAnyH_take (i := 33) (oi := ?oi61) (v := ?vv61) ?hi61 ?hs61 ?hf61 ?ha61 ?hq61 ?hy61 hHeld ?hr61
      case hi61 => (simp only [List.getElem?_toArray, List.getElem?_cons_succ, List.getElem?_cons_zero]; exact rfl)
      case hs61 => kernel_rfl
      case hf61 => kernel_rfl
      case ha61 => kernel_rfl
      case hq61 => exact fun _ _ _ h => h
      case hy61 =>
        refine Or.inl ⟨by rfl, ?_⟩
        intro w' hSw
        try dsimp only at hSw
        go_simp
        first | done | with_reducible rfl
      simp only [Act.put, List.setIfInBounds_toArray, List.set_cons_succ, List.set_cons_zero]
      refine wpAnyH_ready (rs := [34]) (by kernel_rfl) (by simp) ?_
      refine AllReadyH.cons rfl (fun K hK => ?_) AllReadyH.nil
      go_simp
      go_at_call 15
      obtain ⟨BB, zz, k47_, k48_, k49_, k50_, k51_, zw⟩ := hHeld
      (with_reducible refine (below_is (implWorthOf_any E A3_ c4_ xs (2 ^ xs.length) _ _ _ k49_.ints (by first | omega | (simp; omega) | simp) (by omega)) (congrArg (Value.int .i64) Hv42_.out)).mono ?_)
      rintro e w62 ⟨rfl, hb9⟩
      refine hK.out _ _ ⟨BB.trans (hb9.mono (by omega)), Nat.le_trans zz hb9.size, k47_.below hb9 (by first | omega | (simp; omega) | simp), k48_.below hb9 (by first | omega | (simp; omega) | simp), k49_.below hb9 (by first | omega | (simp; omega) | simp), (hb9.cell (p := ⟨w1.heap.size, 0, none⟩) (by first | omega | (simp; omega) | simp)).trans k50_, (hb9.cell (p := ⟨w1.heap.size, 1, none⟩) (by first | omega | (simp; omega) | simp)).trans k51_, Nat.le_trans zw hb9.size⟩ (fun hHeld => ?_)
      clear hb9 zw k51_ k50_ k49_ k48_ k47_ zz BB
      clear hK K
      try simp only [Act.put, List.setIfInBounds_toArray, List.set_cons_zero, List.set_cons_succ]
      refine wpAnyH_take (i := 35) (oi := ?oi62) (v := ?vv62) ?hi62 ?hs62 ?hf62 ?ha62 ?hq62 ?hy62 hHeld ?hr62
      case hi62 => (simp only [List.getElem?_toArray, List.getElem?_cons_succ, List.getElem?_cons_zero]; exact rfl)
      case hs62 => kernel_rfl
      case hf62 => kernel_rfl
      case ha62 => kernel_rfl
      case hq62 => exact fun _ _ _ h => h
      case hy62 =>
        refine Or.inl ⟨by rfl, ?_⟩
        intro w' hSw
        try dsimp only at hSw
        go_simp
        first | done | with_reducible rfl
      simp only [Act.put, List.setIfInBounds_toArray, List.set_cons_succ, List.set_cons_zero]
      refine wpAnyH_take (i := 36) (oi := ?oi63) (v := ?vv63) ?hi63 ?hs63 ?hf63 ?ha63 ?hq63 ?hy63 hHeld ?hr63
      case hi63 => (simp only [List.getElem?_toArray, List.getElem?_cons_succ, List.getElem?_cons_zero]; exact rfl)
      case hs63 => kernel_rfl
      case hf63 => kernel_rfl
      case ha63 => kernel_rfl
      case hq63 => exact fun _ _ _ h => h
      case hy63 =>
        refine Or.inl ⟨by rfl, ?_⟩
        intro w' hSw
        try dsimp only at hSw
        go_simp
        first | done | with_reducible rfl
      simp only [Act.put, List.setIfInBounds_toArray, List.set_cons_succ, List.set_cons_zero]
      refine wpAnyH_take (i := 37) (oi := ?oi64) (v := ?vv64) ?hi64 ?hs64 ?hf64 ?ha64 ?hq64 ?hy64 hHeld ?hr64
      case hi64 => (simp only [List.getElem?_toArray, List.getElem?_cons_succ, List.getElem?_cons_zero]; exact rfl)
      case hs64 => kernel_rfl
      case hf64 => kernel_rfl
      case ha64 => kernel_rfl
      case hq64 => exact fun _ _ _ h => h
      case hy64 =>
        refine Or.inl ⟨by rfl, ?_⟩
        intro w' hSw
        try dsimp only at hSw
        go_simp
        first | done | with_reducible rfl
      simp only [Act.put, List.setIfInBounds_toArray, List.set_cons_succ, List.set_cons_zero]
      refine wpAnyH_done (by kernel_rfl) ?_ _
      obtain ⟨BB, zz, k47_, k48_, k49_, k50_, k51_, zw⟩ := hHeld
      clear hw44_ hw45_ hw46_
      have k63_ := BB
      clear BB
      have k64_ := zz
      clear zz
      have k65_ := zw
      clear zw
      go_wp2
      go_ret
      exact ⟨ret_bool (by first | exact rfl | exact h43_b.trans rfl), k63_⟩

set_option maxRecDepth 10000 in
set_option maxHeartbeats 400000 in
theorem fnWorthOf_big (A0 : Option Addr) (c0 : Nat) (bs : List Int) (B0 : Option Addr) (d0 : Nat) (ds : List Int) (w : World) (hl : ¬ bs.length ≤ 1048576) (hm : bs.length ≤ 9223372036854775807) :
    Calls Try.prog 3 #[.slice A0 bs.length c0, .slice B0 ds.length d0] w fun e w' => e = .returned (.bool true) ∧ Below w.heap.size w w' := by
  go_enter Try.func3, Try.ntmps3
  go_wp2
  go_ret
  exact ⟨rfl, Below.refl _ _⟩

set_option maxRecDepth 10000 in
set_option maxHeartbeats 400000 in
theorem fnWorthOf_big2 (A0 : Option Addr) (c0 : Nat) (bs : List Int) (B0 : Option Addr) (d0 : Nat) (ds : List Int) (w : World) (hl : bs.length ≤ 1048576) (hl1 : ¬ ds.length ≤ 1048576) (hm : ds.length ≤ 9223372036854775807) :
    Calls Try.prog 3 #[.slice A0 bs.length c0, .slice B0 ds.length d0] w fun e w' => e = .returned (.bool true) ∧ Below w.heap.size w w' := by
  go_enter Try.func3, Try.ntmps3
  go_wp2
  go_ret
  exact ⟨rfl, Below.refl _ _⟩

theorem fnWorthOf_all (A0 : Option Addr) (c0 : Nat) (bs : List Int) (B0 : Option Addr) (d0 : Nat) (ds : List Int) (w : World) (h0 : Bytes w w.heap.size A0 bs) (h1 : Bytes w w.heap.size B0 ds) (hm : bs.length ≤ 9223372036854775807) (hm1 : ds.length ≤ 9223372036854775807) (hc0 : bs.length ≤ c0) (hd0 : ds.length ≤ d0) :
    Calls Try.prog 3 #[.slice A0 bs.length c0, .slice B0 ds.length d0] w fun e w' => e = .returned (.bool true) ∧ Below w.heap.size w w' := by
  by_cases hl : bs.length ≤ 1048576
  · by_cases hl1 : ds.length ≤ 1048576
    · exact fnWorthOf_walk A0 c0 bs B0 d0 ds w h0 h1 hl hl1 hc0 hd0
    · exact fnWorthOf_big2 A0 c0 bs B0 d0 ds w hl hl1 hm1
  · exact fnWorthOf_big A0 c0 bs B0 d0 ds w hl hm

end Go.Proofs.Ythhcjomfpjopdaa
