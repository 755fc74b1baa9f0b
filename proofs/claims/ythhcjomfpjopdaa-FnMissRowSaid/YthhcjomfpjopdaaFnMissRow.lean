/-
  The law of MissRow returns true for every code, and writes nothing that was there: halves are the last word on misses. No condition.
-/
import Derived.Test.YthhcjomfpjopdaaGA
import Derived.Test.YthhcjomfpjopdaaDrawW
import Derived.Test.YthhcjomfpjopdaaGame
import Derived.Test.YthhcjomfpjopdaaGame6I
import Derived.Test.YthhcjomfpjopdaaGB
import Derived.Test.YthhcjomfpjopdaaMiss
import Derived.Test.YthhcjomfpjopdaaHalfI
import Derived.Test.YthhcjomfpjopdaaGC
import Derived.Test.YthhcjomfpjopdaaFx
import Derived.Deep.RegionHeld3
namespace Go.Proofs.Ythhcjomfpjopdaa
open Go.RowKit

set_option maxRecDepth 10000 in
set_option maxHeartbeats 2000000 in
theorem fnMissRow_walk (A0 : Option Addr) (c0 : Nat) (bs : List Int) (w : World) (h0 : Bytes w w.heap.size A0 bs) (hl : bs.length ≤ 1048576) (hc0 : bs.length ≤ c0) :
    Calls Try.prog 5 #[.slice A0 bs.length c0] w fun e w' => e = .returned (.bool true) ∧ Below w.heap.size w w' := by
  have hlm : bs.length ≤ 9223372036854775807 := by omega
  go_enter Try.func5, Try.ntmps5
  have Htrue : Hid True := trivial
  have hc0u := hc0
  have h0u := h0
  have hlmu := hlm
  go_wp2_with fail
  refine (drawMissRow_any A0 c0 bs _ (h0.more (by first | omega | (simp; omega) | simp)) hlm hc0).mono ?_
  rintro e w1 ⟨E, A3_, c4_, A6_, c7_, xs, ys, hx5, hy5, hyb, rfl, ho5_, ho8_, hb2_⟩
  have o9_ := h0.below hb2_ (by first | omega | (simp; omega) | simp)
  have z10_ := hb2_.size
  have B11_ := (Below.refl w.heap.size w).trans (hb2_.mono (by first | omega | (simp; omega) | simp))
  clear hb2_
  have hlbsxs : xs.length ≤ 1152921504606846976 := by omega
  have hlbsys : ys.length ≤ 1152921504606846976 := by omega
  have o12_ := o9_.below ((Below.refl _ _).alloc (Nat.le_refl _) (.cells #[.int .i64 E, .slice A3_ xs.length c4_] 25)) (by first | omega | (simp; omega) | simp)
  have o13_ := ho5_.alloc (by first | omega | (simp; omega) | simp) (.cells #[.int .i64 E, .slice A3_ xs.length c4_] 25)
  have o14_ := ho8_.alloc (by first | omega | (simp; omega) | simp) (.cells #[.int .i64 E, .slice A3_ xs.length c4_] 25)
  have B15_ := B11_.alloc (by first | omega | (simp; omega) | simp) (.cells #[.int .i64 E, .slice A3_ xs.length c4_] 25)
  have a16_ : (w1.alloc (.cells #[.int .i64 E, .slice A3_ xs.length c4_] 25)).cell? ⟨w1.heap.size, 0, none⟩ = some (.int .i64 E) := by simp [go_sem]
  have a17_ : (w1.alloc (.cells #[.int .i64 E, .slice A3_ xs.length c4_] 25)).cell? ⟨w1.heap.size, 1, none⟩ = some (.slice A3_ xs.length c4_) := by simp [go_sem]
  go_wp2_with fail
  refine (implMissRow_any E A3_ c4_ xs A6_ c7_ ys _ _ _ o13_.ints (by first | omega | (simp; omega) | simp) (by omega) _ _ o14_.ints (by first | omega | (simp; omega) | simp) (by omega)).mono ?_
  rintro e w18 ⟨A19_, c20_, rfl, ho21_, hb18_⟩
  have ho21_ : Own w18 (w1.heap.size + 1) w18.heap.size A19_ (missRow E xs ys) := ho21_.more (by simp) (Nat.le_refl _)
  have o22_ := o12_.below hb18_ (by first | omega | (simp; omega) | simp)
  have o23_ := o13_.below hb18_ (by first | omega | (simp; omega) | simp)
  have o24_ := o14_.below hb18_ (by first | omega | (simp; omega) | simp)
  have o25_ := (hb18_.cell (p := ⟨w1.heap.size, 0, none⟩) (by first | omega | (simp; omega) | simp)).trans a16_
  have o26_ := (hb18_.cell (p := ⟨w1.heap.size, 1, none⟩) (by first | omega | (simp; omega) | simp)).trans a17_
  have z27_ := hb18_.size
  try simp at z27_
  have B28_ := B15_.trans (hb18_.mono (by first | omega | (simp; omega) | simp))
  clear hb18_
  go_wp2_with fail
  refine (specMissRow_any E A3_ c4_ xs A6_ c7_ ys _ _ _ o23_.ints (by first | omega | (simp; omega) | simp) (by omega) _ _ o24_.ints (by first | omega | (simp; omega) | simp) (by omega)).mono ?_
  rintro e w29 ⟨A30_, c31_, rfl, ho32_, hb29_⟩
  have o33_ := o22_.below hb29_ (by first | omega | (simp; omega) | simp)
  have o34_ := o23_.below hb29_ (by first | omega | (simp; omega) | simp)
  have o35_ := o24_.below hb29_ (by first | omega | (simp; omega) | simp)
  have o36_ := ho21_.below hb29_ (by first | omega | (simp; omega) | simp)
  have o37_ := (hb29_.cell (p := ⟨w1.heap.size, 0, none⟩) (by first | omega | (simp; omega) | simp)).trans o25_
  have o38_ := (hb29_.cell (p := ⟨w1.heap.size, 1, none⟩) (by first | omega | (simp; omega) | simp)).trans o26_
  have z39_ := hb29_.size
  have B40_ := B28_.trans (hb29_.mono (by first | omega | (simp; omega) | simp))
  clear hb29_
  go_wp2_with fail
  refine (sameInts_yes A19_ A30_ c20_ c31_ (missRow E xs ys) (missRow E xs ys) _ _ _ _ _ o36_.ints ho32_.ints (by have e := missRow_len E xs ys; omega) rfl).mono ?_
  rintro e w41 ⟨rfl, hb41_⟩
  have o42_ := o33_.below hb41_ (by first | omega | (simp; omega) | simp)
  have o43_ := o34_.below hb41_ (by first | omega | (simp; omega) | simp)
  have o44_ := o35_.below hb41_ (by first | omega | (simp; omega) | simp)
  have o45_ := o36_.below hb41_ (by first | omega | (simp; omega) | simp)
  have o46_ := ho32_.below hb41_ (by first | omega | (simp; omega) | simp)
  have o47_ := (hb41_.cell (p := ⟨w1.heap.size, 0, none⟩) (by first | omega | (simp; omega) | simp)).trans o37_
  have o48_ := (hb41_.cell (p := ⟨w1.heap.size, 1, none⟩) (by first | omega | (simp; omega) | simp)).trans o38_
  have z49_ := hb41_.size
  have B50_ := B40_.trans (hb41_.mono (by first | omega | (simp; omega) | simp))
  clear hb41_
  by_cases h51_ : ((missRow E xs ys).length : Int) = 0
  · have h51_b : (((missRow E xs ys).length : Int) == 0) = true := by simpa using h51_
    have h51_n : (((missRow E xs ys).length : Int) != 0) = false := by simpa using h51_
    have h51_le : ((missRow E xs ys).length : Int) ≤ 0 := by omega
    have h51_ge : 0 ≤ ((missRow E xs ys).length : Int) := by omega
    have Hh51_ := Lib.hid h51_
    clear h51_
    by_cases h52_ : awardsB E xs ys = true
    · have H52_ := Lib.hid h52_
      clear h52_
      go_wp2_with fail
      refine (implAwardsOk_any E A3_ c4_ xs A6_ c7_ ys _ _ _ o43_.ints (by first | omega | (simp; omega) | simp) (by omega) _ _ o44_.ints (by first | omega | (simp; omega) | simp) (by omega)).mono ?_
      rintro e w53 ⟨he, hb53_⟩
      rw [H52_.out] at he
      subst he
      have o54_ := o42_.below hb53_ (by first | omega | (simp; omega) | simp)
      have o55_ := o43_.below hb53_ (by first | omega | (simp; omega) | simp)
      have o56_ := o44_.below hb53_ (by first | omega | (simp; omega) | simp)
      have o57_ := o45_.below hb53_ (by first | omega | (simp; omega) | simp)
      have o58_ := o46_.below hb53_ (by first | omega | (simp; omega) | simp)
      have o59_ := (hb53_.cell (p := ⟨w1.heap.size, 0, none⟩) (by first | omega | (simp; omega) | simp)).trans o47_
      have o60_ := (hb53_.cell (p := ⟨w1.heap.size, 1, none⟩) (by first | omega | (simp; omega) | simp)).trans o48_
      have z61_ := hb53_.size
      have B62_ := B50_.trans (hb53_.mono (by first | omega | (simp; omega) | simp))
      clear hb53_
      have h63_ : (ys.length : Int) = 1 := by have e := missRow_none (E := E) (xs := xs) (ys := ys) (by have e := Hh51_.out; omega) H52_.out; omega
      have h63_b : ((ys.length : Int) == 1) = true := by simpa using h63_
      have h63_n : ((ys.length : Int) != 1) = false := by simpa using h63_
      have h63_le : (ys.length : Int) ≤ 1 := by omega
      have h63_ge : 1 ≤ (ys.length : Int) := by omega
      have Hh63_ := Lib.hid h63_
      clear h63_
      go_wp2_with fail
      refine (alive_any _).mono ?_
      rintro e w64 ⟨rfl, hb64_⟩
      have o65_ := o54_.below hb64_ (by first | omega | (simp; omega) | simp)
      have o66_ := o55_.below hb64_ (by first | omega | (simp; omega) | simp)
      have o67_ := o56_.below hb64_ (by first | omega | (simp; omega) | simp)
      have o68_ := o57_.below hb64_ (by first | omega | (simp; omega) | simp)
      have o69_ := o58_.below hb64_ (by first | omega | (simp; omega) | simp)
      have o70_ := (hb64_.cell (p := ⟨w1.heap.size, 0, none⟩) (by first | omega | (simp; omega) | simp)).trans o59_
      have o71_ := (hb64_.cell (p := ⟨w1.heap.size, 1, none⟩) (by first | omega | (simp; omega) | simp)).trans o60_
      have z72_ := hb64_.size
      have B73_ := B62_.trans (hb64_.mono (by first | omega | (simp; omega) | simp))
      clear hb64_
      go_wp2
      go_ret
      exact ⟨ret_bool (by first | exact rfl | exact h63_b.trans rfl), B73_⟩
    · have H52_ : Hid (awardsB E xs ys = false) := by show _ = _; simpa using h52_
      clear h52_
      go_wp2_with fail
      refine (implAwardsOk_any E A3_ c4_ xs A6_ c7_ ys _ _ _ o43_.ints (by first | omega | (simp; omega) | simp) (by omega) _ _ o44_.ints (by first | omega | (simp; omega) | simp) (by omega)).mono ?_
      rintro e w53 ⟨he, hb53_⟩
      rw [H52_.out] at he
      subst he
      have o54_ := o42_.below hb53_ (by first | omega | (simp; omega) | simp)
      have o55_ := o43_.below hb53_ (by first | omega | (simp; omega) | simp)
      have o56_ := o44_.below hb53_ (by first | omega | (simp; omega) | simp)
      have o57_ := o45_.below hb53_ (by first | omega | (simp; omega) | simp)
      have o58_ := o46_.below hb53_ (by first | omega | (simp; omega) | simp)
      have o59_ := (hb53_.cell (p := ⟨w1.heap.size, 0, none⟩) (by first | omega | (simp; omega) | simp)).trans o47_
      have o60_ := (hb53_.cell (p := ⟨w1.heap.size, 1, none⟩) (by first | omega | (simp; omega) | simp)).trans o48_
      have z61_ := hb53_.size
      have B62_ := B50_.trans (hb53_.mono (by first | omega | (simp; omega) | simp))
      clear hb53_
      go_wp2_with fail
      refine (alive_any _).mono ?_
      rintro e w63 ⟨rfl, hb63_⟩
      have o64_ := o54_.below hb63_ (by first | omega | (simp; omega) | simp)
      have o65_ := o55_.below hb63_ (by first | omega | (simp; omega) | simp)
      have o66_ := o56_.below hb63_ (by first | omega | (simp; omega) | simp)
      have o67_ := o57_.below hb63_ (by first | omega | (simp; omega) | simp)
      have o68_ := o58_.below hb63_ (by first | omega | (simp; omega) | simp)
      have o69_ := (hb63_.cell (p := ⟨w1.heap.size, 0, none⟩) (by first | omega | (simp; omega) | simp)).trans o59_
      have o70_ := (hb63_.cell (p := ⟨w1.heap.size, 1, none⟩) (by first | omega | (simp; omega) | simp)).trans o60_
      have z71_ := hb63_.size
      have B72_ := B62_.trans (hb63_.mono (by first | omega | (simp; omega) | simp))
      clear hb63_
      go_wp2
      go_ret
      exact ⟨ret_bool (by first | exact rfl | exact h51_b.trans rfl), B72_⟩
  · have h51_b : (((missRow E xs ys).length : Int) == 0) = false := by simpa using h51_
    have h51_n : (((missRow E xs ys).length : Int) != 0) = true := by simpa using h51_
    have hms := missRow_some (E := E) (xs := xs) (ys := ys) (by omega)
    have HAW := Lib.hid hms.1
    have hy2 := hms.2
    have HOK : Hid (caseOkB E xs = true) := ((awardsB_iff _ _ _).1 hms.1).1
    have hx2 : 2 ≤ xs.length := by have e := ((awardsB_iff _ _ _).1 hms.1).2.1; omega
    have hbd := caseOk_bd HOK.out
    clear hms
    obtain ⟨hp1, hp2⟩ := pow_set (n := ys.length) hy5
    have hml := missRow_len E xs ys
    go_wp2
    go_loopw [6] (fun i wr => ∃ k : Nat, i = .int .i64 k ∧ (k ≤ (missRow E xs ys).length) ∧ Below w.heap.size w wr ∧ w41.heap.size ≤ wr.heap.size ∧ Bytes wr (w.heap.size) A0 bs ∧ Own wr (w.heap.size) (w1.heap.size) A3_ xs ∧ Own wr (w.heap.size) (w1.heap.size) A6_ ys ∧ Own wr (w1.heap.size + 1) (w18.heap.size) A19_ (missRow E xs ys) ∧ Own wr (w18.heap.size) (w29.heap.size) A30_ (missRow E xs ys) ∧ wr.cell? ⟨w1.heap.size, 0, none⟩ = some (.int .i64 E) ∧ wr.cell? ⟨w1.heap.size, 1, none⟩ = some (.slice A3_ xs.length c4_)) (fun i _ => (missRow E xs ys).length - (intOf i).toNat)
    case atStart => exact ⟨0, rfl, Nat.zero_le _, B50_, (by first | omega | (simp; omega) | simp), o42_, o43_, o44_, o45_, o46_, o47_, o48_⟩
    case round =>
      obtain ⟨k, rfl, hk, k53_, k54_, k55_, k56_, k57_, k58_, k59_, k60_, k61_⟩ := hrel
      obtain ⟨w52, rfl⟩ : ∃ x, x = wr := ⟨_, rfl⟩
      by_cases hlt0 : k < (missRow E xs ys).length
      · obtain ⟨b62_, f63_, rfl, b62_l, b62_h, -⟩ := k58_.ints (by omega)
        have c64_ : w52.cell? ⟨b62_, f63_ + k, none⟩ = some (.int .i64 ((missRow E xs ys).getD k 0)) := k58_.ints.at2 k (by first | omega | (simp; omega) | simp)
        have c64_i : (k : Int) < ((missRow E xs ys).length : Int) := by omega
        have c64_j : (0 : Int) ≤ (k : Int) := by omega
        have v65_g := miss_at HAW.out k
        obtain ⟨v65_, hv65_⟩ : ∃ v, v = (missRow E xs ys).getD k 0 := ⟨_, rfl⟩
        rw [← hv65_] at c64_ v65_g
        have Hv65_ := Lib.hid hv65_
        clear hv65_
        obtain ⟨v65_g1, v65_g2⟩ := v65_g
        have h66_ : ¬ (v65_ > 0) := by omega
        have h66_d : decide (v65_ > 0) = false := decide_eq_false h66_
        by_cases h67_ : (k : Int) > 0
        · have h67_d : decide ((k : Int) > 0) = true := decide_eq_true h67_
          have h67_m : decide (0 < k) = true := decide_eq_true (by omega)
          have h67_o : decide ((0 : Int) < (k : Int)) = true := decide_eq_true (by omega)
          obtain ⟨x68_, hx68_⟩ : ∃ x : Nat, ((k : Int) - 1) = (x : Int) := ⟨(((k : Int) - 1)).toNat, by omega⟩
          have Hx68_ := Lib.hid hx68_
          have x68_b : x68_ < (missRow E xs ys).length := by omega
          have c69_ : w52.cell? ⟨b62_, f63_ + x68_, none⟩ = some (.int .i64 ((missRow E xs ys).getD x68_ 0)) := k58_.ints.at2 x68_ (by first | omega | (simp; omega) | simp)
          have c69_i : (x68_ : Int) < ((missRow E xs ys).length : Int) := by omega
          have c69_j : (0 : Int) ≤ (x68_ : Int) := by omega
          have v70_g := miss_at HAW.out x68_
          obtain ⟨v70_, hv70_⟩ : ∃ v, v = (missRow E xs ys).getD x68_ 0 := ⟨_, rfl⟩
          rw [← hv70_] at c69_ v70_g
          have Hv70_ := Lib.hid hv70_
          clear hv70_
          obtain ⟨v70_g1, v70_g2⟩ := v70_g
          have h71_ : ¬ (v65_ > v70_) := by have e := miss_next HAW.out (k := k) Hx68_.out (by omega); rw [← Hv65_.out, ← Hv70_.out] at e; omega
          have h71_d : decide (v65_ > v70_) = false := decide_eq_false h71_
          have hw72_ : IntKind.i64.wrap ((k : Int) - 1) = ((k : Int) - 1) := IntWalk.i64_in _ (by omega)
          go_wp2
          go_quiet (fail)
          obtain ⟨w73, hw73⟩ : ∃ x, x = w52.drewN nq := ⟨_, rfl⟩
          have hb74_ : Below w52.heap.size w52 w73 := by rw [hw73]; exact below_drewN (Below.refl _ _) _
          rw [← hw73]
          clear hw73
          clear hw72_
          have o76_ := k55_.below hb74_ (by first | omega | (simp; omega) | simp)
          have o77_ := k56_.below hb74_ (by first | omega | (simp; omega) | simp)
          have o78_ := k57_.below hb74_ (by first | omega | (simp; omega) | simp)
          have o79_ := k58_.below hb74_ (by first | omega | (simp; omega) | simp)
          have o80_ := k59_.below hb74_ (by first | omega | (simp; omega) | simp)
          have o81_ := (hb74_.cell (p := ⟨w1.heap.size, 0, none⟩) (by first | omega | (simp; omega) | simp)).trans k60_
          have o82_ := (hb74_.cell (p := ⟨w1.heap.size, 1, none⟩) (by first | omega | (simp; omega) | simp)).trans k61_
          have z83_ := hb74_.size
          have B84_ := k53_.trans (hb74_.mono (by first | omega | (simp; omega) | simp))
          clear hb74_
          go_wp2
          go_roundw
          case rel => exact ⟨k + 1, by go_num, by omega, B84_, (by first | omega | (simp; omega) | simp), o76_, o77_, o78_, o79_, o80_, o81_, o82_⟩
          case measure => simp [intOf] <;> omega
        · have h67_d : decide ((k : Int) > 0) = false := decide_eq_false h67_
          have h67_m : decide (0 < k) = false := decide_eq_false (by omega)
          have h67_o : decide ((0 : Int) < (k : Int)) = false := decide_eq_false (by omega)
          go_wp2
          go_quiet (fail)
          obtain ⟨w68, hw68⟩ : ∃ x, x = w52.drewN nq := ⟨_, rfl⟩
          have hb69_ : Below w52.heap.size w52 w68 := by rw [hw68]; exact below_drewN (Below.refl _ _) _
          rw [← hw68]
          clear hw68
          have o71_ := k55_.below hb69_ (by first | omega | (simp; omega) | simp)
          have o72_ := k56_.below hb69_ (by first | omega | (simp; omega) | simp)
          have o73_ := k57_.below hb69_ (by first | omega | (simp; omega) | simp)
          have o74_ := k58_.below hb69_ (by first | omega | (simp; omega) | simp)
          have o75_ := k59_.below hb69_ (by first | omega | (simp; omega) | simp)
          have o76_ := (hb69_.cell (p := ⟨w1.heap.size, 0, none⟩) (by first | omega | (simp; omega) | simp)).trans k60_
          have o77_ := (hb69_.cell (p := ⟨w1.heap.size, 1, none⟩) (by first | omega | (simp; omega) | simp)).trans k61_
          have z78_ := hb69_.size
          have B79_ := k53_.trans (hb69_.mono (by first | omega | (simp; omega) | simp))
          clear hb69_
          go_wp2
          go_roundw
          case rel => exact ⟨k + 1, by go_num, by omega, B79_, (by first | omega | (simp; omega) | simp), o71_, o72_, o73_, o74_, o75_, o76_, o77_⟩
          case measure => simp [intOf] <;> omega
      · obtain rfl : k = (missRow E xs ys).length := by omega
        have g75_ : w1.heap.size < w52.heap.size := (by first | omega | (simp; omega) | simp)
        have g76_ : w.heap.size ≤ w52.heap.size := (by first | omega | (simp; omega) | simp)
        have g77_ : w1.heap.size ≤ w52.heap.size := (by first | omega | (simp; omega) | simp)
        have g78_ : w1.heap.size ≤ w52.heap.size := (by first | omega | (simp; omega) | simp)
        have g79_ : w18.heap.size ≤ w52.heap.size := (by first | omega | (simp; omega) | simp)
        have g80_ : w29.heap.size ≤ w52.heap.size := (by first | omega | (simp; omega) | simp)
        have g81_ : w.heap.size ≤ w52.heap.size := (by first | omega | (simp; omega) | simp)
        go_wp2_with fail
        refine wp_region_held_drew (S := (fun w' : World => Below w.heap.size w w' ∧ w52.heap.size ≤ w'.heap.size ∧ Bytes w' (w.heap.size) A0 bs ∧ Own w' (w.heap.size) (w1.heap.size) A3_ xs ∧ Own w' (w.heap.size) (w1.heap.size) A6_ ys ∧ Own w' (w1.heap.size + 1) (w18.heap.size) A19_ (missRow E xs ys) ∧ Own w' (w18.heap.size) (w29.heap.size) A30_ (missRow E xs ys) ∧ w'.cell? ⟨w1.heap.size, 0, none⟩ = some (.int .i64 E) ∧ w'.cell? ⟨w1.heap.size, 1, none⟩ = some (.slice A3_ xs.length c4_) ∧ w52.heap.size ≤ w'.heap.size)) (by kernel_rfl) ⟨k53_.drew, by exact (by first | omega | (simp; omega) | simp), k55_, k56_, k57_, k58_, k59_, k60_, k61_, Nat.le_refl _⟩ (fun hHeld => ?_)
        refine wpAnyH_take (i := 0) (oi := ?oi1) (v := ?vv1) ?hi1 ?hs1 ?hf1 ?ha1 ?hq1 ?hy1 hHeld ?hr1
        case hi1 => (simp only [List.getElem?_toArray, List.getElem?_cons_zero]; exact rfl)
        case hs1 => kernel_rfl
        case hf1 => kernel_rfl
        case ha1 => kernel_rfl
        case hq1 => exact fun _ _ _ h => h
        case hy1 =>
          refine Or.inl ⟨by rfl, ?_⟩
          intro w' hSw
          try dsimp only at hSw
          go_simp
          first | done | with_reducible rfl
        simp only [Act.put, List.setIfInBounds_toArray, List.set_cons_succ, List.set_cons_zero]
        refine wpAnyH_take (i := 1) (oi := ?oi2) (v := ?vv2) ?hi2 ?hs2 ?hf2 ?ha2 ?hq2 ?hy2 hHeld ?hr2
        case hi2 => (simp only [List.getElem?_toArray, List.getElem?_cons_succ, List.getElem?_cons_zero]; exact rfl)
        case hs2 => kernel_rfl
        case hf2 => kernel_rfl
        case ha2 => kernel_rfl
        case hq2 => exact fun _ _ _ h => h
        case hy2 =>
          refine Or.inl ⟨by rfl, ?_⟩
          intro w' hSw
          try dsimp only at hSw
          go_simp
          first | done | with_reducible rfl
        simp only [Act.put, List.setIfInBounds_toArray, List.set_cons_succ, List.set_cons_zero]
        refine wpAnyH_ready (rs := [2]) (by kernel_rfl) (by simp) ?_
        refine AllReadyH.cons rfl (fun K hK => ?_) AllReadyH.nil
        go_simp
        go_at_call 24
        obtain ⟨BB, zz, k68_, k69_, k70_, k71_, k72_, k73_, k74_, zw⟩ := hHeld
        (with_reducible refine (implHalfAwards_yes E A3_ c4_ xs _ _ _ k69_.ints (by first | omega | (simp; omega) | simp) HOK.out).mono ?_)
        rintro e w82 ⟨A62_, c63_, rfl, ho64_, hb9⟩
        have ho64_ := ho64_.more (lo' := w52.heap.size) (by omega) (Nat.le_refl _)
        refine hK.out _ _ ⟨BB.trans (hb9.mono (by omega)), Nat.le_trans zz hb9.size, k68_.below hb9 (by first | omega | (simp; omega) | simp), k69_.below hb9 (by first | omega | (simp; omega) | simp), k70_.below hb9 (by first | omega | (simp; omega) | simp), k71_.below hb9 (by first | omega | (simp; omega) | simp), k72_.below hb9 (by first | omega | (simp; omega) | simp), (hb9.cell (p := ⟨w1.heap.size, 0, none⟩) (by first | omega | (simp; omega) | simp)).trans k73_, (hb9.cell (p := ⟨w1.heap.size, 1, none⟩) (by first | omega | (simp; omega) | simp)).trans k74_, Nat.le_trans zw hb9.size⟩ (fun hHeld => ?_)
        clear hb9 zw k74_ k73_ k72_ k71_ k70_ k69_ k68_ zz BB
        clear hK K
        try simp only [Act.put, List.setIfInBounds_toArray, List.set_cons_zero, List.set_cons_succ]
        refine wpAnyH_ready (rs := [3]) (by kernel_rfl) (by simp) ?_
        refine AllReadyH.cons rfl (fun K hK => ?_) AllReadyH.nil
        go_simp
        go_at_call 26
        obtain ⟨BB, zz, k68_, k69_, k70_, k71_, k72_, k73_, k74_, zw⟩ := hHeld
        (with_reducible refine (implMissRow_any E A3_ c4_ xs A62_ c63_ (halfAw E xs) _ _ _ k69_.ints (by first | omega | (simp; omega) | simp) (by omega) _ _ ho64_.ints (by first | omega | (simp; omega) | simp) (by rw [halfAw_length]; omega)).mono ?_)
        rintro e w83 ⟨A65_, c66_, rfl, ho67_, hb9⟩
        have ho67_ := ho67_.more (lo' := w52.heap.size) (by omega) (Nat.le_refl _)
        have ho64_ := ho64_.below hb9 (Nat.le_refl _)
        have ho64_ := ho64_.more (Nat.le_refl _) hb9.size
        refine hK.out _ _ ⟨BB.trans (hb9.mono (by omega)), Nat.le_trans zz hb9.size, k68_.below hb9 (by first | omega | (simp; omega) | simp), k69_.below hb9 (by first | omega | (simp; omega) | simp), k70_.below hb9 (by first | omega | (simp; omega) | simp), k71_.below hb9 (by first | omega | (simp; omega) | simp), k72_.below hb9 (by first | omega | (simp; omega) | simp), (hb9.cell (p := ⟨w1.heap.size, 0, none⟩) (by first | omega | (simp; omega) | simp)).trans k73_, (hb9.cell (p := ⟨w1.heap.size, 1, none⟩) (by first | omega | (simp; omega) | simp)).trans k74_, Nat.le_trans zw hb9.size⟩ (fun hHeld => ?_)
        clear hb9 zw k74_ k73_ k72_ k71_ k70_ k69_ k68_ zz BB
        clear hK K
        try simp only [Act.put, List.setIfInBounds_toArray, List.set_cons_zero, List.set_cons_succ]
        refine wpAnyH_take (i := 4) (oi := ?oi3) (v := ?vv3) ?hi3 ?hs3 ?hf3 ?ha3 ?hq3 ?hy3 hHeld ?hr3
        case hi3 => (simp only [List.getElem?_toArray, List.getElem?_cons_succ, List.getElem?_cons_zero]; exact rfl)
        case hs3 => kernel_rfl
        case hf3 => kernel_rfl
        case ha3 => kernel_rfl
        case hq3 => exact fun _ _ _ h => h
        case hy3 =>
          refine Or.inl ⟨by rfl, ?_⟩
          intro w' hSw
          try dsimp only at hSw
          go_simp
          first | done | with_reducible rfl
        simp only [Act.put, List.setIfInBounds_toArray, List.set_cons_succ, List.set_cons_zero]
        refine wpAnyH_done (by kernel_rfl) ?_ _
        obtain ⟨BB, zz, k68_, k69_, k70_, k71_, k72_, k73_, k74_, zw⟩ := hHeld
        have k84_ := BB
        clear BB
        have k85_ := zz
        clear zz
        have k86_ := zw
        clear zw
        go_wp2_with fail
        refine (implRowOrder_any A65_ c66_ (missRow E xs (halfAw E xs)) A19_ c20_ (missRow E xs ys) _ _ _ ho67_.ints (by first | omega | (simp; omega) | simp) _ _ k71_.ints (by first | omega | (simp; omega) | simp) (by have e := missRow_len E xs (halfAw E xs); omega) (by have e := missRow_len E xs ys; omega)).mono ?_
        rintro e w87 ⟨he, hb87_⟩
        obtain ⟨v88_, hv88_⟩ : ∃ v, rowOrd (missRow E xs (halfAw E xs)) (missRow E xs ys) = v := ⟨_, rfl⟩
        rw [hv88_] at he
        subst he
        have bv88_ : -1 ≤ v88_ ∧ v88_ ≤ 2 := by rw [← hv88_]; exact rowOrd_rg _ _
        obtain ⟨bv88_1, bv88_2⟩ := bv88_
        have Hv88_ := Lib.hid hv88_
        clear hv88_
        have o89_ := k68_.below hb87_ (by first | omega | (simp; omega) | simp)
        have o90_ := k69_.below hb87_ (by first | omega | (simp; omega) | simp)
        have o91_ := k70_.below hb87_ (by first | omega | (simp; omega) | simp)
        have o92_ := k71_.below hb87_ (by first | omega | (simp; omega) | simp)
        have o93_ := k72_.below hb87_ (by first | omega | (simp; omega) | simp)
        have o94_ := ho64_.below hb87_ (by first | omega | (simp; omega) | simp)
        have o95_ := ho67_.below hb87_ (by first | omega | (simp; omega) | simp)
        have o96_ := (hb87_.cell (p := ⟨w1.heap.size, 0, none⟩) (by first | omega | (simp; omega) | simp)).trans k73_
        have o97_ := (hb87_.cell (p := ⟨w1.heap.size, 1, none⟩) (by first | omega | (simp; omega) | simp)).trans k74_
        have z98_ := hb87_.size
        have B99_ := k84_.trans (hb87_.mono (by first | omega | (simp; omega) | simp))
        clear hb87_
        have h100_ : ((missRow E xs ys).length : Int) = ((2 ^ ys.length) - 2) := missRow_count HAW.out
        have h100_b : (((missRow E xs ys).length : Int) == ((2 ^ ys.length) - 2)) = true := by simpa using h100_
        have h100_n : (((missRow E xs ys).length : Int) != ((2 ^ ys.length) - 2)) = false := by simpa using h100_
        have h100_le : ((missRow E xs ys).length : Int) ≤ ((2 ^ ys.length) - 2) := by omega
        have h100_ge : ((2 ^ ys.length) - 2) ≤ ((missRow E xs ys).length : Int) := by omega
        have Hh100_ := Lib.hid h100_
        clear h100_
        by_cases h101_ : v88_ = -1
        · have h101_b : (v88_ == -1) = true := by simpa using h101_
          have h101_n : (v88_ != -1) = false := by simpa using h101_
          have h101_le : v88_ ≤ -1 := by omega
          have h101_ge : -1 ≤ v88_ := by omega
          have Hh101_ := Lib.hid h101_
          clear h101_
          go_wp2
          go_ret
          exact ⟨ret_bool (by first | exact rfl | exact h101_b.trans rfl), B99_⟩
        · have h101_b : (v88_ == -1) = false := by simpa using h101_
          have h101_n : (v88_ != -1) = true := by simpa using h101_
          have h102_ : v88_ = 0 := by rw [← Hv88_.out]; exact miss_self HAW.out (miss_is HAW.out hx2 (by rw [Hv88_.out]; exact h101_))
          have h102_b : (v88_ == 0) = true := by simpa using h102_
          have h102_n : (v88_ != 0) = false := by simpa using h102_
          have h102_le : v88_ ≤ 0 := by omega
          have h102_ge : 0 ≤ v88_ := by omega
          have Hh102_ := Lib.hid h102_
          clear h102_
          go_wp2_with fail
          refine (implHalfAwards_yes E A3_ c4_ xs _ _ _ o90_.ints (by first | omega | (simp; omega) | simp) HOK.out).mono ?_
          rintro e w103 ⟨A104_, c105_, rfl, ho106_, hb103_⟩
          have o107_ := o89_.below hb103_ (by first | omega | (simp; omega) | simp)
          have o108_ := o90_.below hb103_ (by first | omega | (simp; omega) | simp)
          have o109_ := o91_.below hb103_ (by first | omega | (simp; omega) | simp)
          have o110_ := o92_.below hb103_ (by first | omega | (simp; omega) | simp)
          have o111_ := o93_.below hb103_ (by first | omega | (simp; omega) | simp)
          have o112_ := o94_.below hb103_ (by first | omega | (simp; omega) | simp)
          have o113_ := o95_.below hb103_ (by first | omega | (simp; omega) | simp)
          have o114_ := (hb103_.cell (p := ⟨w1.heap.size, 0, none⟩) (by first | omega | (simp; omega) | simp)).trans o96_
          have o115_ := (hb103_.cell (p := ⟨w1.heap.size, 1, none⟩) (by first | omega | (simp; omega) | simp)).trans o97_
          have z116_ := hb103_.size
          have B117_ := B99_.trans (hb103_.mono (by first | omega | (simp; omega) | simp))
          clear hb103_
          have H118_ : Hid (ys = (halfAw E xs)) := miss_is HAW.out hx2 (by rw [Hv88_.out]; exact h101_)
          go_wp2_with fail
          refine (sameInts_yes A6_ A104_ c7_ c105_ ys (halfAw E xs) _ _ _ _ _ o109_.ints ho106_.ints (by omega) H118_.out).mono ?_
          rintro e w119 ⟨rfl, hb119_⟩
          have o120_ := o107_.below hb119_ (by first | omega | (simp; omega) | simp)
          have o121_ := o108_.below hb119_ (by first | omega | (simp; omega) | simp)
          have o122_ := o109_.below hb119_ (by first | omega | (simp; omega) | simp)
          have o123_ := o110_.below hb119_ (by first | omega | (simp; omega) | simp)
          have o124_ := o111_.below hb119_ (by first | omega | (simp; omega) | simp)
          have o125_ := o112_.below hb119_ (by first | omega | (simp; omega) | simp)
          have o126_ := o113_.below hb119_ (by first | omega | (simp; omega) | simp)
          have o127_ := ho106_.below hb119_ (by first | omega | (simp; omega) | simp)
          have o128_ := (hb119_.cell (p := ⟨w1.heap.size, 0, none⟩) (by first | omega | (simp; omega) | simp)).trans o114_
          have o129_ := (hb119_.cell (p := ⟨w1.heap.size, 1, none⟩) (by first | omega | (simp; omega) | simp)).trans o115_
          have z130_ := hb119_.size
          have B131_ := B117_.trans (hb119_.mono (by first | omega | (simp; omega) | simp))
          clear hb119_
          go_wp2
          go_ret
          exact ⟨ret_bool (by first | exact rfl | exact h102_b.trans rfl), B131_⟩

set_option maxRecDepth 10000 in
set_option maxHeartbeats 400000 in
theorem fnMissRow_big (A0 : Option Addr) (c0 : Nat) (bs : List Int) (w : World) (hl : ¬ bs.length ≤ 1048576) (hm : bs.length ≤ 9223372036854775807) :
    Calls Try.prog 5 #[.slice A0 bs.length c0] w fun e w' => e = .returned (.bool true) ∧ Below w.heap.size w w' := by
  go_enter Try.func5, Try.ntmps5
  go_wp2
  go_ret
  exact ⟨rfl, Below.refl _ _⟩

theorem fnMissRow_all (A0 : Option Addr) (c0 : Nat) (bs : List Int) (w : World) (h0 : Bytes w w.heap.size A0 bs) (hm : bs.length ≤ 9223372036854775807) (hc0 : bs.length ≤ c0) :
    Calls Try.prog 5 #[.slice A0 bs.length c0] w fun e w' => e = .returned (.bool true) ∧ Below w.heap.size w w' := by
  by_cases hl : bs.length ≤ 1048576
  · exact fnMissRow_walk A0 c0 bs w h0 hl hc0
  · exact fnMissRow_big A0 c0 bs w hl hm

end Go.Proofs.Ythhcjomfpjopdaa
