/-
  The law of RunwayCost returns true for every two codes, and writes nothing that was there. No condition.
-/
import Derived.Test.YtadphfiikkfjaaaGA
import Derived.Test.YtadphfiikkfjaaaDraw10
import Derived.Test.YtadphfiikkfjaaaRunL
import Derived.Test.YtadphfiikkfjaaaGame10I
import Derived.Test.YtadphfiikkfjaaaGC
import Derived.Test.YtadphfiikkfjaaaFx
import Derived.Deep.RegionHeld3
namespace Go.Proofs.Ytadphfiikkfjaaa
open Go.RowKit

set_option maxRecDepth 10000 in
set_option maxHeartbeats 4000000 in
theorem fnRunwayCost_walk (A0 : Option Addr) (c0 : Nat) (bs : List Int) (B0 : Option Addr) (d0 : Nat) (ds : List Int) (w : World) (h0 : Bytes w w.heap.size A0 bs) (h1 : Bytes w w.heap.size B0 ds) (hl : bs.length ≤ 1048576) (hl1 : ds.length ≤ 1048576) (hc0 : bs.length ≤ c0) (hd0 : ds.length ≤ d0) :
    Calls Try.prog 4 #[.slice A0 bs.length c0, .slice B0 ds.length d0] w fun e w' => e = .returned (.bool true) ∧ Below w.heap.size w w' := by
  have hlm : bs.length ≤ 9223372036854775807 := by omega
  have hlm1 : ds.length ≤ 9223372036854775807 := by omega
  go_enter Try.func4, Try.ntmps4
  have Htrue : Hid True := trivial
  have hc0u := hc0
  have h0u := h0
  have hlmu := hlm
  have hd0u := hd0
  have h1u := h1
  have hlm1u := hlm1
  go_wp2_with fail
  refine (drawRunwayCost_any A0 c0 bs _ (h0.more (by first | omega | (simp; omega) | simp)) hlm hc0).mono ?_
  rintro e w1 ⟨A3_, c4_, xs, s, hx8, hs, rfl, ho5_, hb2_⟩
  have o6_ := h0.below hb2_ (by first | omega | (simp; omega) | simp)
  have o7_ := h1.below hb2_ (by first | omega | (simp; omega) | simp)
  have z8_ := hb2_.size
  have B9_ := (Below.refl w.heap.size w).trans (hb2_.mono (by first | omega | (simp; omega) | simp))
  clear hb2_
  obtain ⟨hsl, hsu⟩ := hs
  go_wp2_with fail
  refine (implRunwayCost_any A3_ c4_ xs s _ _ _ ho5_.ints (by first | omega | (simp; omega) | simp) (by omega)).mono ?_
  rintro e w10 ⟨he, hb10_⟩
  obtain ⟨v11_, hv11_⟩ : ∃ v, runCost xs s = v := ⟨_, rfl⟩
  rw [hv11_] at he
  subst he
  have bv11_ : -1 ≤ v11_ ∧ v11_ ≤ 12 := by rw [← hv11_]; exact runCost_rg _ _
  obtain ⟨bv11_1, bv11_2⟩ := bv11_
  have Hv11_ := Lib.hid hv11_
  clear hv11_
  have o12_ := o6_.below hb10_ (by first | omega | (simp; omega) | simp)
  have o13_ := o7_.below hb10_ (by first | omega | (simp; omega) | simp)
  have o14_ := ho5_.below hb10_ (by first | omega | (simp; omega) | simp)
  have z15_ := hb10_.size
  have B16_ := B9_.trans (hb10_.mono (by first | omega | (simp; omega) | simp))
  clear hb10_
  go_wp2_with fail
  refine (specRunwayCost_any A3_ c4_ xs s _ _ _ o14_.ints (by omega)).mono ?_
  rintro e w' ⟨he, rfl⟩
  rw [Hv11_.out] at he
  subst he
  by_cases h17_ : v11_ < 0
  · have h17_d : decide (v11_ < 0) = true := decide_eq_true h17_
    have h18_ : v11_ = -1 := by rw [← Hv11_.out]; exact runCost_neg (by rw [Hv11_.out]; omega)
    have h18_b : (v11_ == -1) = true := by simpa using h18_
    have h18_n : (v11_ != -1) = false := by simpa using h18_
    have h18_le : v11_ ≤ -1 := by omega
    have h18_ge : -1 ≤ v11_ := by omega
    have Hh18_ := Lib.hid h18_
    clear h18_
    go_wp2_with fail
    refine (alive_any _).mono ?_
    rintro e w19 ⟨rfl, hb19_⟩
    have o20_ := o12_.below hb19_ (by first | omega | (simp; omega) | simp)
    have o21_ := o13_.below hb19_ (by first | omega | (simp; omega) | simp)
    have o22_ := o14_.below hb19_ (by first | omega | (simp; omega) | simp)
    have z23_ := hb19_.size
    have B24_ := B16_.trans (hb19_.mono (by first | omega | (simp; omega) | simp))
    clear hb19_
    go_wp2
    go_ret
    exact ⟨ret_bool (by first | exact rfl | exact h18_b.trans rfl), B24_⟩
  · have h17_d : decide (v11_ < 0) = false := decide_eq_false h17_
    obtain ⟨hnb, hs0, hs1⟩ := runCost_some (xs := xs) (s := s) (by rw [Hv11_.out]; omega)
    have HNB : Hid (needB xs = true) := hnb
    have hbd := need_bd HNB.out
    obtain ⟨hx1, hx4⟩ := hbd
    obtain ⟨hp1, hp2⟩ := pow_bd hx4
    clear hnb
    by_cases h18_ : (ds.length : Int) > 0
    · have h18_d : decide ((ds.length : Int) > 0) = true := decide_eq_true h18_
      obtain ⟨b19_, f20_, rfl, b19_h, c22_, v21_l, v21_u⟩ := o13_.at_ (k := 0) (by omega)
      generalize ds[0] = v21_ at c22_ v21_l v21_u
      have c22_ : w10.cell? ⟨b19_, f20_, none⟩ = some (.int .u8 v21_) := c22_
      have v21_w : IntKind.i64.wrap v21_ = v21_ := IntWalk.i64_in _ (by omega)
      have c22_i : 0 < (ds.length : Int) := by omega
      obtain ⟨R23_, hR23_⟩ : ∃ R, v21_ % ((2 ^ xs.length) : Int) = R := ⟨_, rfl⟩
      have bR23_1 := Int.emod_nonneg v21_ (show ¬ ((2 ^ xs.length) : Int) = 0 by omega)
      have bR23_2 := Int.emod_lt_of_pos v21_ (show 0 < ((2 ^ xs.length) : Int) by omega)
      rw [hR23_] at bR23_1 bR23_2
      have zR23_ : (((2 ^ xs.length) : Int) == 0) = false := by simp only [beq_eq_false_iff_ne]; omega
      have yR23_ : (((2 ^ xs.length) : Int) = 0) = False := eq_false (by omega)
      have qR23_ : IntKind.i64.wrap (v21_.tmod ((2 ^ xs.length) : Int)) = R23_ := by rw [Int.tmod_eq_emod_of_nonneg (by omega), hR23_]; exact IntWalk.i64_in _ (by omega)
      have pR23_ : v21_.tmod ((2 ^ xs.length) : Int) = R23_ := by rw [Int.tmod_eq_emod_of_nonneg (by omega), hR23_]
      have hw24_ : IntKind.i64.wrap (2 ^ xs.length) = (2 ^ xs.length) := IntWalk.i64_in _ (by omega)
      go_wp2
      go_quiet (fail)
      obtain ⟨w25, hw25⟩ : ∃ x, x = w10.drewN nq := ⟨_, rfl⟩
      have hb26_ : Below w10.heap.size w10 w25 := by rw [hw25]; exact below_drewN (Below.refl _ _) _
      rw [← hw25]
      clear hw25
      clear hw24_
      have o28_ := o12_.below hb26_ (by first | omega | (simp; omega) | simp)
      have o29_ := o13_.below hb26_ (by first | omega | (simp; omega) | simp)
      have o30_ := o14_.below hb26_ (by first | omega | (simp; omega) | simp)
      have z31_ := hb26_.size
      have B32_ := B16_.trans (hb26_.mono (by first | omega | (simp; omega) | simp))
      clear hb26_
      go_wp2_with fail
      refine (implRunwayCost_any A3_ c4_ xs R23_ _ _ _ o30_.ints (by first | omega | (simp; omega) | simp) (by omega)).mono ?_
      rintro e w33 ⟨he, hb33_⟩
      obtain ⟨v34_, hv34_⟩ : ∃ v, runCost xs R23_ = v := ⟨_, rfl⟩
      rw [hv34_] at he
      subst he
      have bv34_ : -1 ≤ v34_ ∧ v34_ ≤ 12 := by rw [← hv34_]; exact runCost_rg _ _
      obtain ⟨bv34_1, bv34_2⟩ := bv34_
      have Hv34_ := Lib.hid hv34_
      clear hv34_
      have o35_ := o28_.below hb33_ (by first | omega | (simp; omega) | simp)
      have o36_ := o29_.below hb33_ (by first | omega | (simp; omega) | simp)
      have o37_ := o30_.below hb33_ (by first | omega | (simp; omega) | simp)
      have z38_ := hb33_.size
      have B39_ := B32_.trans (hb33_.mono (by first | omega | (simp; omega) | simp))
      clear hb33_
      go_wp2_with fail
      refine (implRunwayCost_any A3_ c4_ xs (bits .or .i64 s R23_) _ _ _ o37_.ints (by first | omega | (simp; omega) | simp) (by omega)).mono ?_
      rintro e w40 ⟨he, hb40_⟩
      obtain ⟨v41_, hv41_⟩ : ∃ v, runCost xs (bits .or .i64 s R23_) = v := ⟨_, rfl⟩
      rw [hv41_] at he
      subst he
      have bv41_ : -1 ≤ v41_ ∧ v41_ ≤ 12 := by rw [← hv41_]; exact runCost_rg _ _
      obtain ⟨bv41_1, bv41_2⟩ := bv41_
      have Hv41_ := Lib.hid hv41_
      clear hv41_
      have o42_ := o35_.below hb40_ (by first | omega | (simp; omega) | simp)
      have o43_ := o36_.below hb40_ (by first | omega | (simp; omega) | simp)
      have o44_ := o37_.below hb40_ (by first | omega | (simp; omega) | simp)
      have z45_ := hb40_.size
      have B46_ := B39_.trans (hb40_.mono (by first | omega | (simp; omega) | simp))
      clear hb40_
      go_wp2_with fail
      refine (implRunwayCost_any A3_ c4_ xs (bits .and .i64 s R23_) _ _ _ o44_.ints (by first | omega | (simp; omega) | simp) (by omega)).mono ?_
      rintro e w47 ⟨he, hb47_⟩
      obtain ⟨v48_, hv48_⟩ : ∃ v, runCost xs (bits .and .i64 s R23_) = v := ⟨_, rfl⟩
      rw [hv48_] at he
      subst he
      have bv48_ : -1 ≤ v48_ ∧ v48_ ≤ 12 := by rw [← hv48_]; exact runCost_rg _ _
      obtain ⟨bv48_1, bv48_2⟩ := bv48_
      have Hv48_ := Lib.hid hv48_
      clear hv48_
      have o49_ := o42_.below hb47_ (by first | omega | (simp; omega) | simp)
      have o50_ := o43_.below hb47_ (by first | omega | (simp; omega) | simp)
      have o51_ := o44_.below hb47_ (by first | omega | (simp; omega) | simp)
      have z52_ := hb47_.size
      have B53_ := B46_.trans (hb47_.mono (by first | omega | (simp; omega) | simp))
      clear hb47_
      have h54_ : (v11_ + v34_) ≥ (v41_ + v48_) := by rw [← Hv11_.out, ← Hv34_.out, ← Hv41_.out, ← Hv48_.out]; exact runCost_sub HNB.out ⟨hs0, hs1⟩ ⟨by omega, by omega⟩
      have h54_d : decide ((v11_ + v34_) ≥ (v41_ + v48_)) = true := decide_eq_true h54_
      go_wp2_with fail
      refine (implRunwayCost_any A3_ c4_ xs 0 _ _ _ o51_.ints (by first | omega | (simp; omega) | simp) (by omega)).mono ?_
      rintro e w55 ⟨he, hb55_⟩
      obtain ⟨v56_, hv56_⟩ : ∃ v, runCost xs 0 = v := ⟨_, rfl⟩
      rw [hv56_] at he
      subst he
      have bv56_ : -1 ≤ v56_ ∧ v56_ ≤ 12 := by rw [← hv56_]; exact runCost_rg _ _
      obtain ⟨bv56_1, bv56_2⟩ := bv56_
      have Hv56_ := Lib.hid hv56_
      clear hv56_
      have o57_ := o49_.below hb55_ (by first | omega | (simp; omega) | simp)
      have o58_ := o50_.below hb55_ (by first | omega | (simp; omega) | simp)
      have o59_ := o51_.below hb55_ (by first | omega | (simp; omega) | simp)
      have z60_ := hb55_.size
      have B61_ := B53_.trans (hb55_.mono (by first | omega | (simp; omega) | simp))
      clear hb55_
      have h62_ : v56_ = 0 := by rw [← Hv56_.out]; exact runCost_none HNB.out
      have h62_b : (v56_ == 0) = true := by simpa using h62_
      have h62_n : (v56_ != 0) = false := by simpa using h62_
      have h62_le : v56_ ≤ 0 := by omega
      have h62_ge : 0 ≤ v56_ := by omega
      have Hh62_ := Lib.hid h62_
      clear h62_
      go_wp2
      go_ret
      exact ⟨ret_bool (by first | exact rfl | exact h62_b.trans rfl), B61_⟩
    · have h18_d : decide ((ds.length : Int) > 0) = false := decide_eq_false h18_
      go_wp2_with fail
      refine (implRunwayCost_any A3_ c4_ xs 0 _ _ _ o14_.ints (by first | omega | (simp; omega) | simp) (by omega)).mono ?_
      rintro e w19 ⟨he, hb19_⟩
      obtain ⟨v20_, hv20_⟩ : ∃ v, runCost xs 0 = v := ⟨_, rfl⟩
      rw [hv20_] at he
      subst he
      have bv20_ : -1 ≤ v20_ ∧ v20_ ≤ 12 := by rw [← hv20_]; exact runCost_rg _ _
      obtain ⟨bv20_1, bv20_2⟩ := bv20_
      have Hv20_ := Lib.hid hv20_
      clear hv20_
      have o21_ := o12_.below hb19_ (by first | omega | (simp; omega) | simp)
      have o22_ := o13_.below hb19_ (by first | omega | (simp; omega) | simp)
      have o23_ := o14_.below hb19_ (by first | omega | (simp; omega) | simp)
      have z24_ := hb19_.size
      have B25_ := B16_.trans (hb19_.mono (by first | omega | (simp; omega) | simp))
      clear hb19_
      go_wp2_with fail
      refine (implRunwayCost_any A3_ c4_ xs (bits .or .i64 s 0) _ _ _ o23_.ints (by first | omega | (simp; omega) | simp) (by omega)).mono ?_
      rintro e w26 ⟨he, hb26_⟩
      obtain ⟨v27_, hv27_⟩ : ∃ v, runCost xs (bits .or .i64 s 0) = v := ⟨_, rfl⟩
      rw [hv27_] at he
      subst he
      have bv27_ : -1 ≤ v27_ ∧ v27_ ≤ 12 := by rw [← hv27_]; exact runCost_rg _ _
      obtain ⟨bv27_1, bv27_2⟩ := bv27_
      have Hv27_ := Lib.hid hv27_
      clear hv27_
      have o28_ := o21_.below hb26_ (by first | omega | (simp; omega) | simp)
      have o29_ := o22_.below hb26_ (by first | omega | (simp; omega) | simp)
      have o30_ := o23_.below hb26_ (by first | omega | (simp; omega) | simp)
      have z31_ := hb26_.size
      have B32_ := B25_.trans (hb26_.mono (by first | omega | (simp; omega) | simp))
      clear hb26_
      go_wp2_with fail
      refine (implRunwayCost_any A3_ c4_ xs (bits .and .i64 s 0) _ _ _ o30_.ints (by first | omega | (simp; omega) | simp) (by omega)).mono ?_
      rintro e w33 ⟨he, hb33_⟩
      obtain ⟨v34_, hv34_⟩ : ∃ v, runCost xs (bits .and .i64 s 0) = v := ⟨_, rfl⟩
      rw [hv34_] at he
      subst he
      have bv34_ : -1 ≤ v34_ ∧ v34_ ≤ 12 := by rw [← hv34_]; exact runCost_rg _ _
      obtain ⟨bv34_1, bv34_2⟩ := bv34_
      have Hv34_ := Lib.hid hv34_
      clear hv34_
      have o35_ := o28_.below hb33_ (by first | omega | (simp; omega) | simp)
      have o36_ := o29_.below hb33_ (by first | omega | (simp; omega) | simp)
      have o37_ := o30_.below hb33_ (by first | omega | (simp; omega) | simp)
      have z38_ := hb33_.size
      have B39_ := B32_.trans (hb33_.mono (by first | omega | (simp; omega) | simp))
      clear hb33_
      have h40_ : (v11_ + v20_) ≥ (v27_ + v34_) := by rw [← Hv11_.out, ← Hv20_.out, ← Hv27_.out, ← Hv34_.out]; exact runCost_sub HNB.out ⟨hs0, hs1⟩ ⟨by omega, by omega⟩
      have h40_d : decide ((v11_ + v20_) ≥ (v27_ + v34_)) = true := decide_eq_true h40_
      go_wp2_with fail
      refine (implRunwayCost_any A3_ c4_ xs 0 _ _ _ o37_.ints (by first | omega | (simp; omega) | simp) (by omega)).mono ?_
      rintro e w41 ⟨he, hb41_⟩
      rw [Hv20_.out] at he
      subst he
      have o42_ := o35_.below hb41_ (by first | omega | (simp; omega) | simp)
      have o43_ := o36_.below hb41_ (by first | omega | (simp; omega) | simp)
      have o44_ := o37_.below hb41_ (by first | omega | (simp; omega) | simp)
      have z45_ := hb41_.size
      have B46_ := B39_.trans (hb41_.mono (by first | omega | (simp; omega) | simp))
      clear hb41_
      have h47_ : v20_ = 0 := by rw [← Hv20_.out]; exact runCost_none HNB.out
      have h47_b : (v20_ == 0) = true := by simpa using h47_
      have h47_n : (v20_ != 0) = false := by simpa using h47_
      have h47_le : v20_ ≤ 0 := by omega
      have h47_ge : 0 ≤ v20_ := by omega
      have Hh47_ := Lib.hid h47_
      clear h47_
      go_wp2
      go_ret
      exact ⟨ret_bool (by first | exact rfl | exact h47_b.trans rfl), B46_⟩

set_option maxRecDepth 10000 in
set_option maxHeartbeats 400000 in
theorem fnRunwayCost_big (A0 : Option Addr) (c0 : Nat) (bs : List Int) (B0 : Option Addr) (d0 : Nat) (ds : List Int) (w : World) (hl : ¬ bs.length ≤ 1048576) (hm : bs.length ≤ 9223372036854775807) :
    Calls Try.prog 4 #[.slice A0 bs.length c0, .slice B0 ds.length d0] w fun e w' => e = .returned (.bool true) ∧ Below w.heap.size w w' := by
  go_enter Try.func4, Try.ntmps4
  go_wp2
  go_ret
  exact ⟨rfl, Below.refl _ _⟩

set_option maxRecDepth 10000 in
set_option maxHeartbeats 400000 in
theorem fnRunwayCost_big2 (A0 : Option Addr) (c0 : Nat) (bs : List Int) (B0 : Option Addr) (d0 : Nat) (ds : List Int) (w : World) (hl : bs.length ≤ 1048576) (hl1 : ¬ ds.length ≤ 1048576) (hm : ds.length ≤ 9223372036854775807) :
    Calls Try.prog 4 #[.slice A0 bs.length c0, .slice B0 ds.length d0] w fun e w' => e = .returned (.bool true) ∧ Below w.heap.size w w' := by
  go_enter Try.func4, Try.ntmps4
  go_wp2
  go_ret
  exact ⟨rfl, Below.refl _ _⟩

theorem fnRunwayCost_all (A0 : Option Addr) (c0 : Nat) (bs : List Int) (B0 : Option Addr) (d0 : Nat) (ds : List Int) (w : World) (h0 : Bytes w w.heap.size A0 bs) (h1 : Bytes w w.heap.size B0 ds) (hm : bs.length ≤ 9223372036854775807) (hm1 : ds.length ≤ 9223372036854775807) (hc0 : bs.length ≤ c0) (hd0 : ds.length ≤ d0) :
    Calls Try.prog 4 #[.slice A0 bs.length c0, .slice B0 ds.length d0] w fun e w' => e = .returned (.bool true) ∧ Below w.heap.size w w' := by
  by_cases hl : bs.length ≤ 1048576
  · by_cases hl1 : ds.length ≤ 1048576
    · exact fnRunwayCost_walk A0 c0 bs B0 d0 ds w h0 h1 hl hl1 hc0 hd0
    · exact fnRunwayCost_big2 A0 c0 bs B0 d0 ds w hl hl1 hm1
  · exact fnRunwayCost_big A0 c0 bs B0 d0 ds w hl hm

end Go.Proofs.Ytadphfiikkfjaaa
