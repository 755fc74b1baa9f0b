/-
  The law of BringsOf returns true for every two codes, and writes nothing that was there. No condition.
-/
import Derived.Test.YtmkmipgboecdaaaGA
import Derived.Test.YtmkmipgboecdaaaDraw7
import Derived.Test.YtmkmipgboecdaaaArr7
import Derived.Test.YtmkmipgboecdaaaSpec7C
import Derived.Test.YtmkmipgboecdaaaGame7I
import Derived.Test.YtmkmipgboecdaaaGB
import Derived.Test.YtmkmipgboecdaaaGC
import Derived.Test.YtmkmipgboecdaaaFx
import Derived.Deep.RegionHeld3
namespace Go.Proofs.Ytmkmipgboecdaaa
open Go.RowKit

set_option maxRecDepth 10000 in
set_option maxHeartbeats 4000000 in
theorem fnBringsOf_walk (A0 : Option Addr) (c0 : Nat) (bs : List Int) (B0 : Option Addr) (d0 : Nat) (ds : List Int) (w : World) (h0 : Bytes w w.heap.size A0 bs) (h1 : Bytes w w.heap.size B0 ds) (hl : bs.length ≤ 1048576) (hl1 : ds.length ≤ 1048576) (hc0 : bs.length ≤ c0) (hd0 : ds.length ≤ d0) :
    Calls Try.prog 5 #[.slice A0 bs.length c0, .slice B0 ds.length d0] w fun e w' => e = .returned (.bool true) ∧ Below w.heap.size w w' := by
  have hlm : bs.length ≤ 9223372036854775807 := by omega
  have hlm1 : ds.length ≤ 9223372036854775807 := by omega
  go_enter Try.func5, Try.ntmps5
  have Htrue : Hid True := trivial
  have hc0u := hc0
  have h0u := h0
  have hlmu := hlm
  have hd0u := hd0
  have h1u := h1
  have hlm1u := hlm1
  go_wp2_with fail
  refine (drawBringsOf_any A0 c0 bs _ (h0.more (by first | omega | (simp; omega) | simp)) hlm hc0).mono ?_
  rintro e w1 ⟨E, A3_, c4_, xs, p, s, hx5, hp, hs, rfl, ho5_, hb2_⟩
  have o6_ := h0.below hb2_ (by first | omega | (simp; omega) | simp)
  have o7_ := h1.below hb2_ (by first | omega | (simp; omega) | simp)
  have z8_ := hb2_.size
  have B9_ := (Below.refl w.heap.size w).trans (hb2_.mono (by first | omega | (simp; omega) | simp))
  clear hb2_
  have hlbsxs : xs.length ≤ 1152921504606846976 := by omega
  obtain ⟨hpl, hpu⟩ := hp
  obtain ⟨hsl, hsu⟩ := hs
  obtain ⟨hp1, hp2⟩ := pow_set hx5
  have o10_ := o6_.below ((Below.refl _ _).alloc (Nat.le_refl _) (.cells #[.int .i64 E, .slice A3_ xs.length c4_] 25)) (by first | omega | (simp; omega) | simp)
  have o11_ := o7_.below ((Below.refl _ _).alloc (Nat.le_refl _) (.cells #[.int .i64 E, .slice A3_ xs.length c4_] 25)) (by first | omega | (simp; omega) | simp)
  have o12_ := ho5_.alloc (by first | omega | (simp; omega) | simp) (.cells #[.int .i64 E, .slice A3_ xs.length c4_] 25)
  have B13_ := B9_.alloc (by first | omega | (simp; omega) | simp) (.cells #[.int .i64 E, .slice A3_ xs.length c4_] 25)
  have a14_ : (w1.alloc (.cells #[.int .i64 E, .slice A3_ xs.length c4_] 25)).cell? ⟨w1.heap.size, 0, none⟩ = some (.int .i64 E) := by simp [go_sem]
  have a15_ : (w1.alloc (.cells #[.int .i64 E, .slice A3_ xs.length c4_] 25)).cell? ⟨w1.heap.size, 1, none⟩ = some (.slice A3_ xs.length c4_) := by simp [go_sem]
  go_wp2_with fail
  refine (implBringsOf_any E A3_ c4_ xs p s _ _ _ o12_.ints (by first | omega | (simp; omega) | simp) (by omega)).mono ?_
  rintro e w16 ⟨he, hb16_⟩
  obtain ⟨v17_, hv17_⟩ : ∃ v, bringsOf E xs p s = v := ⟨_, rfl⟩
  rw [hv17_] at he
  subst he
  have bv17_ : -1 ≤ v17_ ∧ v17_ ≤ 48 := by rw [← hv17_]; exact bringsOf_bd _ _ _ _
  obtain ⟨bv17_1, bv17_2⟩ := bv17_
  have Hv17_ := Lib.hid hv17_
  clear hv17_
  have o18_ := o10_.below hb16_ (by first | omega | (simp; omega) | simp)
  have o19_ := o11_.below hb16_ (by first | omega | (simp; omega) | simp)
  have o20_ := o12_.below hb16_ (by first | omega | (simp; omega) | simp)
  have o21_ := (hb16_.cell (p := ⟨w1.heap.size, 0, none⟩) (by first | omega | (simp; omega) | simp)).trans a14_
  have o22_ := (hb16_.cell (p := ⟨w1.heap.size, 1, none⟩) (by first | omega | (simp; omega) | simp)).trans a15_
  have z23_ := hb16_.size
  try simp at z23_
  have B24_ := B13_.trans (hb16_.mono (by first | omega | (simp; omega) | simp))
  clear hb16_
  go_wp2_with fail
  refine (specBringsOf_any E A3_ c4_ xs p s _ _ _ o20_.ints (by first | omega | (simp; omega) | simp) (by omega)).mono ?_
  rintro e w25 ⟨he, hb25_⟩
  rw [Hv17_.out] at he
  subst he
  have o26_ := o18_.below hb25_ (by first | omega | (simp; omega) | simp)
  have o27_ := o19_.below hb25_ (by first | omega | (simp; omega) | simp)
  have o28_ := o20_.below hb25_ (by first | omega | (simp; omega) | simp)
  have o29_ := (hb25_.cell (p := ⟨w1.heap.size, 0, none⟩) (by first | omega | (simp; omega) | simp)).trans o21_
  have o30_ := (hb25_.cell (p := ⟨w1.heap.size, 1, none⟩) (by first | omega | (simp; omega) | simp)).trans o22_
  have z31_ := hb25_.size
  have B32_ := B24_.trans (hb25_.mono (by first | omega | (simp; omega) | simp))
  clear hb25_
  by_cases h33_ : v17_ < 0
  · have h33_d : decide (v17_ < 0) = true := decide_eq_true h33_
    have h34_ : v17_ = -1 := by rw [← Hv17_.out]; exact bringsOf_neg (by rw [Hv17_.out]; omega)
    have h34_b : (v17_ == -1) = true := by simpa using h34_
    have h34_n : (v17_ != -1) = false := by simpa using h34_
    have h34_le : v17_ ≤ -1 := by omega
    have h34_ge : -1 ≤ v17_ := by omega
    have Hh34_ := Lib.hid h34_
    clear h34_
    go_wp2_with fail
    refine (alive_any _).mono ?_
    rintro e w35 ⟨rfl, hb35_⟩
    have o36_ := o26_.below hb35_ (by first | omega | (simp; omega) | simp)
    have o37_ := o27_.below hb35_ (by first | omega | (simp; omega) | simp)
    have o38_ := o28_.below hb35_ (by first | omega | (simp; omega) | simp)
    have o39_ := (hb35_.cell (p := ⟨w1.heap.size, 0, none⟩) (by first | omega | (simp; omega) | simp)).trans o29_
    have o40_ := (hb35_.cell (p := ⟨w1.heap.size, 1, none⟩) (by first | omega | (simp; omega) | simp)).trans o30_
    have z41_ := hb35_.size
    have B42_ := B32_.trans (hb35_.mono (by first | omega | (simp; omega) | simp))
    clear hb35_
    go_wp2
    go_ret
    exact ⟨ret_bool (by first | exact rfl | exact h34_b.trans rfl), B42_⟩
  · have h33_d : decide (v17_ < 0) = false := decide_eq_false h33_
    obtain ⟨hok, k, m, rfl, rfl, hkn, hmn, hbit⟩ := bringsOf_some (E := E) (xs := xs) (p := p) (s := s) (by rw [Hv17_.out]; omega)
    have HOK : Hid (caseOkB E xs = true) := hok
    have hbd := caseOk_bd HOK.out
    have HMN := Lib.hid hmn
    have HBIT := Lib.hid hbit
    clear hok hmn hbit
    have hpin := pow_in (k := k) (n := xs.length) hkn (by omega)
    obtain ⟨hpi1, hpi2, hpi3⟩ := hpin
    by_cases h34_ : (ds.length : Int) > 0
    · have h34_d : decide ((ds.length : Int) > 0) = true := decide_eq_true h34_
      obtain ⟨b35_, f36_, rfl, b35_h, c38_, v37_l, v37_u⟩ := o27_.at_ (k := 0) (by omega)
      generalize ds[0] = v37_ at c38_ v37_l v37_u
      have c38_ : w25.cell? ⟨b35_, f36_, none⟩ = some (.int .u8 v37_) := c38_
      have v37_w : IntKind.i64.wrap v37_ = v37_ := IntWalk.i64_in _ (by omega)
      have c38_i : 0 < (ds.length : Int) := by omega
      obtain ⟨R39_, hR39_⟩ : ∃ R, v37_ % ((2 ^ xs.length) : Int) = R := ⟨_, rfl⟩
      have bR39_1 := Int.emod_nonneg v37_ (show ¬ ((2 ^ xs.length) : Int) = 0 by omega)
      have bR39_2 := Int.emod_lt_of_pos v37_ (show 0 < ((2 ^ xs.length) : Int) by omega)
      rw [hR39_] at bR39_1 bR39_2
      have zR39_ : (((2 ^ xs.length) : Int) == 0) = false := by simp only [beq_eq_false_iff_ne]; omega
      have yR39_ : (((2 ^ xs.length) : Int) = 0) = False := eq_false (by omega)
      have qR39_ : IntKind.i64.wrap (v37_.tmod ((2 ^ xs.length) : Int)) = R39_ := by rw [Int.tmod_eq_emod_of_nonneg (by omega), hR39_]; exact IntWalk.i64_in _ (by omega)
      have pR39_ : v37_.tmod ((2 ^ xs.length) : Int) = R39_ := by rw [Int.tmod_eq_emod_of_nonneg (by omega), hR39_]
      obtain ⟨B40_, hB40_⟩ : ∃ B, bits .or .i64 (m : Int) R39_ = B := ⟨_, rfl⟩
      have bB40_ := or_bd63 (a := (m : Int)) (b := R39_) (by omega) (by omega)
      rw [hB40_] at bB40_
      obtain ⟨bB40_1, bB40_2⟩ := bB40_
      have HOR := Lib.hid hB40_
      obtain ⟨B41_, hB41_⟩ : ∃ B, bits .andNot .i64 B40_ (2 ^ k) = B := ⟨_, rfl⟩
      obtain ⟨t, ht1, ht2, ht3, ht4⟩ := wide_is (n := xs.length) (m := m) (k := k) (R := R39_) (by omega) HMN.out ⟨by omega, by omega⟩ hkn HBIT.out
      rw [HOR.out, hB41_] at ht1
      have bB41_ := andNot_bd (a := B40_) (b := (2 ^ k)) (by omega) (by omega)
      rw [hB41_] at bB41_
      obtain ⟨bB41_1, bB41_2⟩ := bB41_
      have HT1 := Lib.hid ht1
      have HT2 := Lib.hid ht2
      have HT3 := Lib.hid ht3
      have HT4 := Lib.hid ht4
      clear ht1 ht2 ht3 ht4
      have hw42_ : IntKind.i64.wrap (2 ^ xs.length) = (2 ^ xs.length) := IntWalk.i64_in _ (by omega)
      have hw43_ : IntKind.i64.wrap (2 ^ k) = (2 ^ k) := IntWalk.i64_in _ (by omega)
      go_wp2
      go_quiet (fail)
      obtain ⟨w44, hw44⟩ : ∃ x, x = w25.drewN nq := ⟨_, rfl⟩
      have hb45_ : Below w25.heap.size w25 w44 := by rw [hw44]; exact below_drewN (Below.refl _ _) _
      rw [← hw44]
      clear hw44
      clear hw42_ hw43_
      have o47_ := o26_.below hb45_ (by first | omega | (simp; omega) | simp)
      have o48_ := o27_.below hb45_ (by first | omega | (simp; omega) | simp)
      have o49_ := o28_.below hb45_ (by first | omega | (simp; omega) | simp)
      have o50_ := (hb45_.cell (p := ⟨w1.heap.size, 0, none⟩) (by first | omega | (simp; omega) | simp)).trans o29_
      have o51_ := (hb45_.cell (p := ⟨w1.heap.size, 1, none⟩) (by first | omega | (simp; omega) | simp)).trans o30_
      have z52_ := hb45_.size
      have B53_ := B32_.trans (hb45_.mono (by first | omega | (simp; omega) | simp))
      clear hb45_
      obtain ⟨b54_, f55_, rfl, b54_l, b54_h, -⟩ := o49_.ints (by omega)
      have c56_ : w44.cell? ⟨b54_, f55_ + k, none⟩ = some (.int .i64 (xs.getD k 0)) := o49_.ints.at2 k (by first | omega | (simp; omega) | simp)
      have c56_i : (k : Int) < (xs.length : Int) := by omega
      have c56_j : (0 : Int) ≤ (k : Int) := by omega
      have v57_g := case_rg HOK.out k
      obtain ⟨v57_, hv57_⟩ : ∃ v, v = xs.getD k 0 := ⟨_, rfl⟩
      rw [← hv57_] at c56_ v57_g
      have Hv57_ := Lib.hid hv57_
      clear hv57_
      obtain ⟨v57_g1, v57_g2⟩ := v57_g
      have h58_ : v17_ ≤ v57_ := by rw [← Hv17_.out, Hv57_.out]; exact brings_claim HOK.out hkn HMN.out HBIT.out
      have h58_d : decide (v17_ ≤ v57_) = true := decide_eq_true h58_
      go_wp2_with fail
      refine (implBringsOf_any E (some ⟨b54_, f55_, none⟩) c4_ xs (k : Int) B41_ _ _ _ o49_.ints (by first | omega | (simp; omega) | simp) (by omega)).mono ?_
      rintro e w59 ⟨he, hb59_⟩
      obtain ⟨v60_, hv60_⟩ : ∃ v, bringsOf E xs (k : Int) B41_ = v := ⟨_, rfl⟩
      rw [hv60_] at he
      subst he
      have bv60_ : -1 ≤ v60_ ∧ v60_ ≤ 48 := by rw [← hv60_]; exact bringsOf_bd _ _ _ _
      obtain ⟨bv60_1, bv60_2⟩ := bv60_
      have Hv60_ := Lib.hid hv60_
      clear hv60_
      have o61_ := o47_.below hb59_ (by first | omega | (simp; omega) | simp)
      have o62_ := o48_.below hb59_ (by first | omega | (simp; omega) | simp)
      have o63_ := o49_.below hb59_ (by first | omega | (simp; omega) | simp)
      have o64_ := (hb59_.cell (p := ⟨w1.heap.size, 0, none⟩) (by first | omega | (simp; omega) | simp)).trans o50_
      have o65_ := (hb59_.cell (p := ⟨w1.heap.size, 1, none⟩) (by first | omega | (simp; omega) | simp)).trans o51_
      have z66_ := hb59_.size
      have B67_ := B53_.trans (hb59_.mono (by first | omega | (simp; omega) | simp))
      clear hb59_
      have h68_ : v60_ ≥ v17_ := by rw [← Hv60_.out, ← Hv17_.out, HT1.out]; exact brings_wide HOK.out hkn HMN.out HBIT.out HT2.out HT3.out HT4.out
      have h68_d : decide (v60_ ≥ v17_) = true := decide_eq_true h68_
      go_wp2
      go_ret
      exact ⟨ret_bool (by first | exact rfl | exact (decide_eq_true (by omega)).trans rfl), B67_⟩
    · have h34_d : decide ((ds.length : Int) > 0) = false := decide_eq_false h34_
      obtain ⟨b35_, f36_, rfl, b35_l, b35_h, -⟩ := o28_.ints (by omega)
      have c37_ : w25.cell? ⟨b35_, f36_ + k, none⟩ = some (.int .i64 (xs.getD k 0)) := o28_.ints.at2 k (by first | omega | (simp; omega) | simp)
      have c37_i : (k : Int) < (xs.length : Int) := by omega
      have c37_j : (0 : Int) ≤ (k : Int) := by omega
      have v38_g := case_rg HOK.out k
      obtain ⟨v38_, hv38_⟩ : ∃ v, v = xs.getD k 0 := ⟨_, rfl⟩
      rw [← hv38_] at c37_ v38_g
      have Hv38_ := Lib.hid hv38_
      clear hv38_
      obtain ⟨v38_g1, v38_g2⟩ := v38_g
      have h39_ : v17_ ≤ v38_ := by rw [← Hv17_.out, Hv38_.out]; exact brings_claim HOK.out hkn HMN.out HBIT.out
      have h39_d : decide (v17_ ≤ v38_) = true := decide_eq_true h39_
      go_wp2_with fail
      refine (implBringsOf_any E (some ⟨b35_, f36_, none⟩) c4_ xs (k : Int) (m : Int) _ _ _ o28_.ints (by first | omega | (simp; omega) | simp) (by omega)).mono ?_
      rintro e w40 ⟨he, hb40_⟩
      rw [Hv17_.out] at he
      subst he
      have o41_ := o26_.below hb40_ (by first | omega | (simp; omega) | simp)
      have o42_ := o27_.below hb40_ (by first | omega | (simp; omega) | simp)
      have o43_ := o28_.below hb40_ (by first | omega | (simp; omega) | simp)
      have o44_ := (hb40_.cell (p := ⟨w1.heap.size, 0, none⟩) (by first | omega | (simp; omega) | simp)).trans o29_
      have o45_ := (hb40_.cell (p := ⟨w1.heap.size, 1, none⟩) (by first | omega | (simp; omega) | simp)).trans o30_
      have z46_ := hb40_.size
      have B47_ := B32_.trans (hb40_.mono (by first | omega | (simp; omega) | simp))
      clear hb40_
      go_wp2
      go_ret
      exact ⟨ret_bool (by first | exact rfl | exact (decide_eq_true (by omega)).trans rfl), B47_⟩

set_option maxRecDepth 10000 in
set_option maxHeartbeats 400000 in
theorem fnBringsOf_big (A0 : Option Addr) (c0 : Nat) (bs : List Int) (B0 : Option Addr) (d0 : Nat) (ds : List Int) (w : World) (hl : ¬ bs.length ≤ 1048576) (hm : bs.length ≤ 9223372036854775807) :
    Calls Try.prog 5 #[.slice A0 bs.length c0, .slice B0 ds.length d0] w fun e w' => e = .returned (.bool true) ∧ Below w.heap.size w w' := by
  go_enter Try.func5, Try.ntmps5
  go_wp2
  go_ret
  exact ⟨rfl, Below.refl _ _⟩

set_option maxRecDepth 10000 in
set_option maxHeartbeats 400000 in
theorem fnBringsOf_big2 (A0 : Option Addr) (c0 : Nat) (bs : List Int) (B0 : Option Addr) (d0 : Nat) (ds : List Int) (w : World) (hl : bs.length ≤ 1048576) (hl1 : ¬ ds.length ≤ 1048576) (hm : ds.length ≤ 9223372036854775807) :
    Calls Try.prog 5 #[.slice A0 bs.length c0, .slice B0 ds.length d0] w fun e w' => e = .returned (.bool true) ∧ Below w.heap.size w w' := by
  go_enter Try.func5, Try.ntmps5
  go_wp2
  go_ret
  exact ⟨rfl, Below.refl _ _⟩

theorem fnBringsOf_all (A0 : Option Addr) (c0 : Nat) (bs : List Int) (B0 : Option Addr) (d0 : Nat) (ds : List Int) (w : World) (h0 : Bytes w w.heap.size A0 bs) (h1 : Bytes w w.heap.size B0 ds) (hm : bs.length ≤ 9223372036854775807) (hm1 : ds.length ≤ 9223372036854775807) (hc0 : bs.length ≤ c0) (hd0 : ds.length ≤ d0) :
    Calls Try.prog 5 #[.slice A0 bs.length c0, .slice B0 ds.length d0] w fun e w' => e = .returned (.bool true) ∧ Below w.heap.size w w' := by
  by_cases hl : bs.length ≤ 1048576
  · by_cases hl1 : ds.length ≤ 1048576
    · exact fnBringsOf_walk A0 c0 bs B0 d0 ds w h0 h1 hl hl1 hc0 hd0
    · exact fnBringsOf_big2 A0 c0 bs B0 d0 ds w hl hl1 hm1
  · exact fnBringsOf_big A0 c0 bs B0 d0 ds w hl hm

end Go.Proofs.Ytmkmipgboecdaaa
