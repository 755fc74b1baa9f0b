/-
  The law of RowOrder returns true for every code, and writes nothing that was there. No condition.
-/
import Derived.Test.YthhcjomfpjopdaaGA
import Derived.Test.YthhcjomfpjopdaaDrawW
import Derived.Test.YthhcjomfpjopdaaGame
import Derived.Test.YthhcjomfpjopdaaGame6I
import Derived.Test.YthhcjomfpjopdaaGB
import Derived.Test.YthhcjomfpjopdaaFx
import Derived.Deep.RegionHeld3
namespace Go.Proofs.Ythhcjomfpjopdaa
open Go.RowKit

set_option maxRecDepth 10000 in
set_option maxHeartbeats 2000000 in
theorem fnRowOrder_walk (A0 : Option Addr) (c0 : Nat) (bs : List Int) (w : World) (h0 : Bytes w w.heap.size A0 bs) (hl : bs.length ≤ 1048576) (hc0 : bs.length ≤ c0) :
    Calls Try.prog 6 #[.slice A0 bs.length c0] w fun e w' => e = .returned (.bool true) ∧ Below w.heap.size w w' := by
  have hlm : bs.length ≤ 9223372036854775807 := by omega
  go_enter Try.func6, Try.ntmps6
  have Htrue : Hid True := trivial
  have hc0u := hc0
  have h0u := h0
  have hlmu := hlm
  go_wp2_with fail
  refine (drawRowOrder_any A0 c0 bs _ (h0.more (by first | omega | (simp; omega) | simp)) hlm hc0).mono ?_
  rintro e w1 ⟨A3_, c4_, A6_, c7_, xs, ys, hx5, hy5, hxb, hyb, rfl, ho5_, ho8_, hb2_⟩
  have o9_ := h0.below hb2_ (by first | omega | (simp; omega) | simp)
  have z10_ := hb2_.size
  have B11_ := (Below.refl w.heap.size w).trans (hb2_.mono (by first | omega | (simp; omega) | simp))
  clear hb2_
  have hlx : xs.length ≤ 1152921504606846976 := by omega
  have hly : ys.length ≤ 1152921504606846976 := by omega
  go_wp2_with fail
  refine (implRowOrder_any A3_ c4_ xs A6_ c7_ ys _ _ _ ho5_.ints (by first | omega | (simp; omega) | simp) _ _ ho8_.ints (by first | omega | (simp; omega) | simp) (by omega) (by omega)).mono ?_
  rintro e w12 ⟨he, hb12_⟩
  obtain ⟨v13_, hv13_⟩ : ∃ v, rowOrd xs ys = v := ⟨_, rfl⟩
  rw [hv13_] at he
  subst he
  have bv13_ : -1 ≤ v13_ ∧ v13_ ≤ 2 := by rw [← hv13_]; exact rowOrd_rg _ _
  obtain ⟨bv13_1, bv13_2⟩ := bv13_
  have Hv13_ := Lib.hid hv13_
  clear hv13_
  have o14_ := o9_.below hb12_ (by first | omega | (simp; omega) | simp)
  have o15_ := ho5_.below hb12_ (by first | omega | (simp; omega) | simp)
  have o16_ := ho8_.below hb12_ (by first | omega | (simp; omega) | simp)
  have z17_ := hb12_.size
  have B18_ := B11_.trans (hb12_.mono (by first | omega | (simp; omega) | simp))
  clear hb12_
  go_wp2_with fail
  refine (specRowOrder_any A3_ c4_ xs A6_ c7_ ys _ _ _ o15_.ints (by first | omega | (simp; omega) | simp) _ _ o16_.ints (by first | omega | (simp; omega) | simp) (by omega) (by omega)).mono ?_
  rintro e w19 ⟨he, hb19_⟩
  rw [Hv13_.out] at he
  subst he
  have o20_ := o14_.below hb19_ (by first | omega | (simp; omega) | simp)
  have o21_ := o15_.below hb19_ (by first | omega | (simp; omega) | simp)
  have o22_ := o16_.below hb19_ (by first | omega | (simp; omega) | simp)
  have z23_ := hb19_.size
  have B24_ := B18_.trans (hb19_.mono (by first | omega | (simp; omega) | simp))
  clear hb19_
  by_cases h25_ : v13_ = 2
  · have h25_b : (v13_ == 2) = true := by simpa using h25_
    have h25_n : (v13_ != 2) = false := by simpa using h25_
    have h25_le : v13_ ≤ 2 := by omega
    have h25_ge : 2 ≤ v13_ := by omega
    have Hh25_ := Lib.hid h25_
    clear h25_
    by_cases h26_ : (xs.length : Int) = (ys.length : Int)
    · have h26_b : ((xs.length : Int) == (ys.length : Int)) = true := by simpa using h26_
      have h26_n : ((xs.length : Int) != (ys.length : Int)) = false := by simpa using h26_
      have h26_le : (xs.length : Int) ≤ (ys.length : Int) := by omega
      have h26_ge : (ys.length : Int) ≤ (xs.length : Int) := by omega
      have Hh26_ := Lib.hid h26_
      clear h26_
      have h27_ : (xs.length : Int) > 16 := by have e := rowOrd_two.1 (Hv13_.out.trans Hh25_.out); have e2 := Hh26_.out; omega
      have h27_d : decide ((xs.length : Int) > 16) = true := decide_eq_true h27_
      go_wp2_with fail
      refine (alive_any _).mono ?_
      rintro e w28 ⟨rfl, hb28_⟩
      have o29_ := o20_.below hb28_ (by first | omega | (simp; omega) | simp)
      have o30_ := o21_.below hb28_ (by first | omega | (simp; omega) | simp)
      have o31_ := o22_.below hb28_ (by first | omega | (simp; omega) | simp)
      have z32_ := hb28_.size
      have B33_ := B24_.trans (hb28_.mono (by first | omega | (simp; omega) | simp))
      clear hb28_
      go_wp2
      go_ret
      exact ⟨ret_bool (by first | exact rfl | exact (decide_eq_true (by omega)).trans rfl), B33_⟩
    · have h26_b : ((xs.length : Int) == (ys.length : Int)) = false := by simpa using h26_
      have h26_n : ((xs.length : Int) != (ys.length : Int)) = true := by simpa using h26_
      go_wp2_with fail
      refine (alive_any _).mono ?_
      rintro e w27 ⟨rfl, hb27_⟩
      have o28_ := o20_.below hb27_ (by first | omega | (simp; omega) | simp)
      have o29_ := o21_.below hb27_ (by first | omega | (simp; omega) | simp)
      have o30_ := o22_.below hb27_ (by first | omega | (simp; omega) | simp)
      have z31_ := hb27_.size
      have B32_ := B24_.trans (hb27_.mono (by first | omega | (simp; omega) | simp))
      clear hb27_
      go_wp2
      go_ret
      exact ⟨ret_bool (by first | exact rfl | exact h26_n.trans rfl), B32_⟩
  · have h25_b : (v13_ == 2) = false := by simpa using h25_
    have h25_n : (v13_ != 2) = true := by simpa using h25_
    have HN2 : Hid (¬ rowOrd xs ys = 2) := fun e => h25_ (by rw [← Hv13_.out]; exact e)
    have HLY : Hid (ys.length = xs.length) := by show _ = _; have e := Classical.not_not.1 (fun e => HN2.out (rowOrd_two.2 e)); omega
    have o26_ := o20_.below ((Below.refl _ _).alloc (Nat.le_refl _) (.cells #[] 3)) (by first | omega | (simp; omega) | simp)
    have o27_ := o21_.alloc (by first | omega | (simp; omega) | simp) (.cells #[] 3)
    have o28_ := o22_.alloc (by first | omega | (simp; omega) | simp) (.cells #[] 3)
    have B29_ := B24_.alloc (by first | omega | (simp; omega) | simp) (.cells #[] 3)
    have G30_ : Grow (w19.alloc (.cells #[] 3)) (w19.heap.size) 0 ([] : List Int) := by have e := grow_lit w19 ([] : List Int) (by simp); (try simp only [hsz] at e); exact e
    have l31_ := G30_.lt
    have HL32_ : Hid (([] : List Int).length = 0) := rfl
    have o33_ := o26_.below ((Below.refl _ _).alloc (Nat.le_refl _) (.cells #[] 3)) (by first | omega | (simp; omega) | simp)
    have o34_ := o27_.alloc (by first | omega | (simp; omega) | simp) (.cells #[] 3)
    have o35_ := o28_.alloc (by first | omega | (simp; omega) | simp) (.cells #[] 3)
    have o36_ := G30_.alloc (.cells #[] 3)
    have B37_ := B29_.alloc (by first | omega | (simp; omega) | simp) (.cells #[] 3)
    have G38_ : Grow ((w19.alloc (.cells #[] 3)).alloc (.cells #[] 3)) (w19.heap.size + 1) 0 ([] : List Int) := by have e := grow_lit (w19.alloc (.cells #[] 3)) ([] : List Int) (by simp); (try simp only [hsz] at e); exact e
    have l39_ := G38_.lt
    have HL40_ : Hid (([] : List Int).length = 0) := rfl
    go_wp2
    go_loopw [8, 6, 7] (fun i vp vq wr => ∃ k : Nat, ∃ us : List Int, ∃ vs : List Int, ∃ gp cp : Nat, ∃ gq cq : Nat, i = .int .i64 k ∧ vp = .slice (some ⟨gp, 0, none⟩) k cp ∧ vq = .slice (some ⟨gq, 0, none⟩) k cq ∧ (k ≤ xs.length) ∧ (us.length = k) ∧ (vs.length = k) ∧ (¬ gp = gq) ∧ (∀ j, j < k → us.getD j 0 = - xs.getD j 0 ∧ vs.getD j 0 = - ys.getD j 0) ∧ w1.heap.size ≤ gp ∧ w1.heap.size ≤ gq ∧ Grow wr gp cp us ∧ Grow wr gq cq vs ∧ Below w.heap.size w wr ∧ w19.heap.size + 2 ≤ wr.heap.size ∧ Bytes wr (w.heap.size) A0 bs ∧ Own wr (w.heap.size) (w1.heap.size) A3_ xs ∧ Own wr (w.heap.size) (w1.heap.size) A6_ ys) (fun i vp vq _ => xs.length - (intOf i).toNat)
    case atStart => exact ⟨0, [], [], w19.heap.size, 0, (w19.heap.size + 1), 0, rfl, (slice_n (by first | omega | simp)), (slice_n (by first | omega | simp)), by omega, rfl, rfl, (by omega), fun j hj => absurd hj (by omega), (by omega), (by omega), o36_, G38_, B37_, (by first | omega | (simp; omega) | simp), o33_, o34_, o35_⟩
    case round =>
      obtain ⟨k, us, vs, gp, cp, gq, cq, rfl, rfl, rfl, hk, hul, hvl, hne, hneg, gplb, gqlb, G42_, G43_, k44_, k45_, k46_, k47_, k48_⟩ := hrel
      obtain ⟨w41, rfl⟩ : ∃ x, x = wr := ⟨_, rfl⟩
      have HL49_ : Hid (us.length = k) := hul
      have l50_ := G42_.lt
      have HL51_ : Hid (vs.length = k) := hvl
      have l52_ := G43_.lt
      by_cases hlt0 : k < xs.length
      · have h53_ : (k : Int) < (ys.length : Int) := by have e := HLY.out; omega
        have h53_d : decide ((k : Int) < (ys.length : Int)) = true := decide_eq_true h53_
        obtain ⟨b54_, f55_, rfl, b54_l, b54_h, -⟩ := k47_.ints (by omega)
        have c56_ : w41.cell? ⟨b54_, f55_ + k, none⟩ = some (.int .i64 (xs.getD k 0)) := k47_.ints.at2 k (by first | omega | (simp; omega) | simp)
        have c56_i : (k : Int) < (xs.length : Int) := by omega
        have c56_j : (0 : Int) ≤ (k : Int) := by omega
        have v57_g := getD_rg hxb (by omega) k
        obtain ⟨v57_, hv57_⟩ : ∃ v, v = xs.getD k 0 := ⟨_, rfl⟩
        rw [← hv57_] at c56_ v57_g
        have Hv57_ := Lib.hid hv57_
        clear hv57_
        obtain ⟨v57_g1, v57_g2⟩ := v57_g
        have o58_ := k46_.below ((Below.refl _ _).alloc (Nat.le_refl _) (.cells #[.int .i64 (-v57_)] 3)) (by first | omega | (simp; omega) | simp)
        have o59_ := k47_.alloc (by first | omega | (simp; omega) | simp) (.cells #[.int .i64 (-v57_)] 3)
        have o60_ := k48_.alloc (by first | omega | (simp; omega) | simp) (.cells #[.int .i64 (-v57_)] 3)
        have o61_ := G42_.alloc (.cells #[.int .i64 (-v57_)] 3)
        have o62_ := G43_.alloc (.cells #[.int .i64 (-v57_)] 3)
        have B63_ := k44_.alloc (by first | omega | (simp; omega) | simp) (.cells #[.int .i64 (-v57_)] 3)
        have G64_ : Grow (w41.alloc (.cells #[.int .i64 (-v57_)] 3)) (w41.heap.size) 1 ([(-v57_)] : List Int) := by have e := grow_lit w41 ([(-v57_)] : List Int) (by simp); (try simp only [hsz] at e); exact e
        have l65_ := G64_.lt
        have HL66_ : Hid (([(-v57_)] : List Int).length = 1) := rfl
        go_upto_region 15 with (at_builtin; (refine append_gr (by rfl) _ _ (by rfl) (xs := us) (ys := ([(-v57_)] : List Int)) (by rfl) (by have e := HL49_.out; omega) o61_ (by rfl) (by have e := HL66_.out; omega) (G64_.ints.read) (by omega) ?_; intro g67_ c68_ w69 G69_ hC70_ hg71_))
        have o73_ := o58_.chg hC70_ (by first | omega | (simp; omega) | simp) (by omega)
        have o74_ := o59_.chg hC70_ (by first | omega | (simp; omega) | simp) (by omega)
        have o75_ := o60_.chg hC70_ (by first | omega | (simp; omega) | simp) (by omega)
        have o76_ := o62_.chg hC70_ (by omega)
        have o77_ := G64_.chg hC70_ (by omega)
        have z78_ := hC70_.size
        try simp at z78_
        have B79_ := B63_.trans (hC70_.below (by omega) (by first | omega | (simp; omega) | simp))
        clear hC70_
        have l80_ := G69_.lt
        have HL81_ : Hid ((us ++ ([(-v57_)] : List Int)).length = k + 1) := by show _ = _; rw [List.length_append, HL49_.out, HL66_.out]
        obtain ⟨b82_, f83_, rfl, b82_l, b82_h, -⟩ := o75_.ints (by omega)
        have c84_ : w69.cell? ⟨b82_, f83_ + k, none⟩ = some (.int .i64 (ys.getD k 0)) := o75_.ints.at2 k (by first | omega | (simp; omega) | simp)
        have c84_i : (k : Int) < (ys.length : Int) := by omega
        have c84_j : (0 : Int) ≤ (k : Int) := by omega
        have v85_g := getD_rg hyb (by omega) k
        obtain ⟨v85_, hv85_⟩ : ∃ v, v = ys.getD k 0 := ⟨_, rfl⟩
        rw [← hv85_] at c84_ v85_g
        have Hv85_ := Lib.hid hv85_
        clear hv85_
        obtain ⟨v85_g1, v85_g2⟩ := v85_g
        have o86_ := o73_.below ((Below.refl _ _).alloc (Nat.le_refl _) (.cells #[.int .i64 (-v85_)] 3)) (by first | omega | (simp; omega) | simp)
        have o87_ := o74_.alloc (by first | omega | (simp; omega) | simp) (.cells #[.int .i64 (-v85_)] 3)
        have o88_ := o75_.alloc (by first | omega | (simp; omega) | simp) (.cells #[.int .i64 (-v85_)] 3)
        have o89_ := o76_.alloc (.cells #[.int .i64 (-v85_)] 3)
        have o90_ := o77_.alloc (.cells #[.int .i64 (-v85_)] 3)
        have o91_ := G69_.alloc (.cells #[.int .i64 (-v85_)] 3)
        have B92_ := B79_.alloc (by first | omega | (simp; omega) | simp) (.cells #[.int .i64 (-v85_)] 3)
        have G93_ : Grow (w69.alloc (.cells #[.int .i64 (-v85_)] 3)) (w69.heap.size) 1 ([(-v85_)] : List Int) := by have e := grow_lit w69 ([(-v85_)] : List Int) (by simp); (try simp only [hsz] at e); exact e
        have l94_ := G93_.lt
        have HL95_ : Hid (([(-v85_)] : List Int).length = 1) := rfl
        go_upto_region 13 with (at_builtin; (refine append_gr (by rfl) _ _ (by rfl) (xs := vs) (ys := ([(-v85_)] : List Int)) (by rfl) (by have e := HL51_.out; omega) o89_ (by rfl) (by have e := HL95_.out; omega) (G93_.ints.read) (by omega) ?_; intro g96_ c97_ w98 G98_ hC99_ hg100_))
        have o102_ := o86_.chg hC99_ (by first | omega | (simp; omega) | simp) (by omega)
        have o103_ := o87_.chg hC99_ (by first | omega | (simp; omega) | simp) (by omega)
        have o104_ := o88_.chg hC99_ (by first | omega | (simp; omega) | simp) (by omega)
        have o105_ := o90_.chg hC99_ (by omega)
        have o106_ := o91_.chg hC99_ (by omega)
        have o107_ := G93_.chg hC99_ (by omega)
        have z108_ := hC99_.size
        try simp at z108_
        have B109_ := B92_.trans (hC99_.below (by omega) (by first | omega | (simp; omega) | simp))
        clear hC99_
        have l110_ := G98_.lt
        have HL111_ : Hid ((vs ++ ([(-v85_)] : List Int)).length = k + 1) := by show _ = _; rw [List.length_append, HL51_.out, HL95_.out]
        go_wp2
        go_roundw
        case rel => exact ⟨k + 1, (us ++ ([(-v57_)] : List Int)), (vs ++ ([(-v85_)] : List Int)), g67_, c68_, g96_, c97_, by go_num, (slice_n (by first | omega | simp)), (slice_n (by first | omega | simp)), by omega, by simp [hul], by simp [hvl], by omega, neg_snoc hul hvl hneg Hv57_.out Hv85_.out, (by omega), (by omega), o106_, G98_, B109_, (by first | omega | (simp; omega) | simp), o102_, o103_, o104_⟩
        case measure => simp [intOf] <;> omega
      · obtain rfl : k = xs.length := by omega
        have HU := Lib.hid hul
        have HVV : Hid (vs.length = ys.length) := by show _ = _; have e := HLY.out; omega
        have HNEG := Lib.hid hneg
        clear hul hvl hneg
        go_wp2_with fail
        refine (implRowOrder_any A6_ c7_ ys A3_ c4_ xs _ _ _ k48_.ints (by first | omega | (simp; omega) | simp) _ _ k47_.ints (by first | omega | (simp; omega) | simp) (by omega) (by omega)).mono ?_
        rintro e w53 ⟨he, hb53_⟩
        obtain ⟨v54_, hv54_⟩ : ∃ v, rowOrd ys xs = v := ⟨_, rfl⟩
        rw [hv54_] at he
        subst he
        have bv54_ : -1 ≤ v54_ ∧ v54_ ≤ 2 := by rw [← hv54_]; exact rowOrd_rg _ _
        obtain ⟨bv54_1, bv54_2⟩ := bv54_
        have Hv54_ := Lib.hid hv54_
        clear hv54_
        have o55_ := k46_.below hb53_ (by first | omega | (simp; omega) | simp)
        have o56_ := k47_.below hb53_ (by first | omega | (simp; omega) | simp)
        have o57_ := k48_.below hb53_ (by first | omega | (simp; omega) | simp)
        have o58_ := G42_.below hb53_ (by first | omega | (simp; omega) | simp)
        have o59_ := G43_.below hb53_ (by first | omega | (simp; omega) | simp)
        have z60_ := hb53_.size
        have B61_ := k44_.trans (hb53_.mono (by first | omega | (simp; omega) | simp))
        clear hb53_
        have h62_ : v54_ = (-v13_) := by rw [← Hv13_.out, ← Hv54_.out]; exact rowOrd_turn HN2.out
        have h62_b : (v54_ == (-v13_)) = true := by simpa using h62_
        have h62_n : (v54_ != (-v13_)) = false := by simpa using h62_
        have h62_le : v54_ ≤ (-v13_) := by omega
        have h62_ge : (-v13_) ≤ v54_ := by omega
        have Hh62_ := Lib.hid h62_
        clear h62_
        go_wp2_with fail
        rw [slice_n (A := (some ⟨gp, 0, none⟩)) (n := xs.length) (m := us.length) (c := cp) (by have e := HL49_.out; first | omega | exact e.symm)]
        rw [slice_n (A := (some ⟨gq, 0, none⟩)) (n := xs.length) (m := vs.length) (c := cq) (by have e := HL51_.out; first | omega | exact e.symm)]
        refine (implRowOrder_any (some ⟨gp, 0, none⟩) cp us (some ⟨gq, 0, none⟩) cq vs _ _ _ o58_.ints (by first | omega | (simp; omega) | simp) _ _ o59_.ints (by first | omega | (simp; omega) | simp) (by have e := HL49_.out; omega) (by have e := HL51_.out; omega)).mono ?_
        rintro e w63 ⟨he, hb63_⟩
        obtain ⟨v64_, hv64_⟩ : ∃ v, rowOrd us vs = v := ⟨_, rfl⟩
        rw [hv64_] at he
        subst he
        have bv64_ : -1 ≤ v64_ ∧ v64_ ≤ 2 := by rw [← hv64_]; exact rowOrd_rg _ _
        obtain ⟨bv64_1, bv64_2⟩ := bv64_
        have Hv64_ := Lib.hid hv64_
        clear hv64_
        have o65_ := o55_.below hb63_ (by first | omega | (simp; omega) | simp)
        have o66_ := o56_.below hb63_ (by first | omega | (simp; omega) | simp)
        have o67_ := o57_.below hb63_ (by first | omega | (simp; omega) | simp)
        have o68_ := o58_.below hb63_ (by first | omega | (simp; omega) | simp)
        have o69_ := o59_.below hb63_ (by first | omega | (simp; omega) | simp)
        have z70_ := hb63_.size
        have B71_ := B61_.trans (hb63_.mono (by first | omega | (simp; omega) | simp))
        clear hb63_
        have h72_ : v64_ = (-v13_) := by rw [← Hv13_.out, ← Hv64_.out]; exact rowOrd_neg HN2.out HU.out HVV.out HNEG.out
        have h72_b : (v64_ == (-v13_)) = true := by simpa using h72_
        have h72_n : (v64_ != (-v13_)) = false := by simpa using h72_
        have h72_le : v64_ ≤ (-v13_) := by omega
        have h72_ge : (-v13_) ≤ v64_ := by omega
        have Hh72_ := Lib.hid h72_
        clear h72_
        by_cases h73_ : xs = ys
        · have H73_ := Lib.hid h73_
          clear h73_
          go_wp2_with fail
          refine (sameInts_yes A3_ A6_ c4_ c7_ xs ys _ _ _ _ _ o66_.ints o67_.ints (by omega) H73_.out).mono ?_
          rintro e w74 ⟨rfl, hb74_⟩
          have o75_ := o65_.below hb74_ (by first | omega | (simp; omega) | simp)
          have o76_ := o66_.below hb74_ (by first | omega | (simp; omega) | simp)
          have o77_ := o67_.below hb74_ (by first | omega | (simp; omega) | simp)
          have o78_ := o68_.below hb74_ (by first | omega | (simp; omega) | simp)
          have o79_ := o69_.below hb74_ (by first | omega | (simp; omega) | simp)
          have z80_ := hb74_.size
          have B81_ := B71_.trans (hb74_.mono (by first | omega | (simp; omega) | simp))
          clear hb74_
          have h82_ : v13_ = 0 := by rw [← Hv13_.out]; exact (rowOrd_zero HN2.out).2 H73_.out
          have h82_b : (v13_ == 0) = true := by simpa using h82_
          have h82_n : (v13_ != 0) = false := by simpa using h82_
          have h82_le : v13_ ≤ 0 := by omega
          have h82_ge : 0 ≤ v13_ := by omega
          have Hh82_ := Lib.hid h82_
          clear h82_
          go_wp2_with fail
          refine (alive_any _).mono ?_
          rintro e w83 ⟨rfl, hb83_⟩
          have o84_ := o75_.below hb83_ (by first | omega | (simp; omega) | simp)
          have o85_ := o76_.below hb83_ (by first | omega | (simp; omega) | simp)
          have o86_ := o77_.below hb83_ (by first | omega | (simp; omega) | simp)
          have o87_ := o78_.below hb83_ (by first | omega | (simp; omega) | simp)
          have o88_ := o79_.below hb83_ (by first | omega | (simp; omega) | simp)
          have z89_ := hb83_.size
          have B90_ := B81_.trans (hb83_.mono (by first | omega | (simp; omega) | simp))
          clear hb83_
          go_wp2
          go_ret
          exact ⟨ret_bool (by first | exact rfl | exact h82_b.trans rfl), B90_⟩
        · have H73_ := Lib.hid h73_
          clear h73_
          go_wp2_with fail
          refine (sameInts_no A3_ A6_ c4_ c7_ xs ys _ _ _ _ _ o66_.ints o67_.ints (by omega) (by omega) H73_.out).mono ?_
          rintro e w74 ⟨rfl, hb74_⟩
          have o75_ := o65_.below hb74_ (by first | omega | (simp; omega) | simp)
          have o76_ := o66_.below hb74_ (by first | omega | (simp; omega) | simp)
          have o77_ := o67_.below hb74_ (by first | omega | (simp; omega) | simp)
          have o78_ := o68_.below hb74_ (by first | omega | (simp; omega) | simp)
          have o79_ := o69_.below hb74_ (by first | omega | (simp; omega) | simp)
          have z80_ := hb74_.size
          have B81_ := B71_.trans (hb74_.mono (by first | omega | (simp; omega) | simp))
          clear hb74_
          have h82_ : ¬ (v13_ = 0) := fun e => H73_.out ((rowOrd_zero HN2.out).1 (by rw [Hv13_.out]; exact e))
          have h82_b : (v13_ == 0) = false := by simpa using h82_
          have h82_n : (v13_ != 0) = true := by simpa using h82_
          go_wp2_with fail
          refine (alive_any _).mono ?_
          rintro e w83 ⟨rfl, hb83_⟩
          have o84_ := o75_.below hb83_ (by first | omega | (simp; omega) | simp)
          have o85_ := o76_.below hb83_ (by first | omega | (simp; omega) | simp)
          have o86_ := o77_.below hb83_ (by first | omega | (simp; omega) | simp)
          have o87_ := o78_.below hb83_ (by first | omega | (simp; omega) | simp)
          have o88_ := o79_.below hb83_ (by first | omega | (simp; omega) | simp)
          have z89_ := hb83_.size
          have B90_ := B81_.trans (hb83_.mono (by first | omega | (simp; omega) | simp))
          clear hb83_
          go_wp2
          go_ret
          exact ⟨ret_bool (by first | exact rfl | exact h82_b.trans rfl), B90_⟩

set_option maxRecDepth 10000 in
set_option maxHeartbeats 400000 in
theorem fnRowOrder_big (A0 : Option Addr) (c0 : Nat) (bs : List Int) (w : World) (hl : ¬ bs.length ≤ 1048576) (hm : bs.length ≤ 9223372036854775807) :
    Calls Try.prog 6 #[.slice A0 bs.length c0] w fun e w' => e = .returned (.bool true) ∧ Below w.heap.size w w' := by
  go_enter Try.func6, Try.ntmps6
  go_wp2
  go_ret
  exact ⟨rfl, Below.refl _ _⟩

theorem fnRowOrder_all (A0 : Option Addr) (c0 : Nat) (bs : List Int) (w : World) (h0 : Bytes w w.heap.size A0 bs) (hm : bs.length ≤ 9223372036854775807) (hc0 : bs.length ≤ c0) :
    Calls Try.prog 6 #[.slice A0 bs.length c0] w fun e w' => e = .returned (.bool true) ∧ Below w.heap.size w w' := by
  by_cases hl : bs.length ≤ 1048576
  · exact fnRowOrder_walk A0 c0 bs w h0 hl hc0
  · exact fnRowOrder_big A0 c0 bs w hl hm

end Go.Proofs.Ythhcjomfpjopdaa
