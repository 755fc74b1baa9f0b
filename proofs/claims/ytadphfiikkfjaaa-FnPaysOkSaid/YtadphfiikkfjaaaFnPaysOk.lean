/-
  The law of PaysOk returns true for every code, and writes nothing that was there. No condition.
-/
import Derived.Test.YtadphfiikkfjaaaGA
import Derived.Test.YtadphfiikkfjaaaDraw10
import Derived.Test.YtadphfiikkfjaaaRunL
import Derived.Test.YtadphfiikkfjaaaGame10I
import Derived.Test.YtadphfiikkfjaaaGC
import Derived.Test.YtadphfiikkfjaaaFx
import Derived.Deep.RegionHeld3
namespace Go.Proofs.Ytadphfiikkfjaaa
open Go.RowKit

set_option maxRecDepth 10000 in
set_option maxHeartbeats 2000000 in
theorem fnPaysOk_walk (A0 : Option Addr) (c0 : Nat) (bs : List Int) (w : World) (h0 : Bytes w w.heap.size A0 bs) (hl : bs.length ≤ 1048576) (hc0 : bs.length ≤ c0) :
    Calls Try.prog 7 #[.slice A0 bs.length c0] w fun e w' => e = .returned (.bool true) ∧ Below w.heap.size w w' := by
  have hlm : bs.length ≤ 9223372036854775807 := by omega
  go_enter Try.func7, Try.ntmps7
  have Htrue : Hid True := trivial
  have hc0u := hc0
  have h0u := h0
  have hlmu := hlm
  go_wp2_with fail
  refine (drawPaysOk_any A0 c0 bs _ (h0.more (by first | omega | (simp; omega) | simp)) hlm hc0).mono ?_
  rintro e w1 ⟨A3_, c4_, A6_, c7_, xs, ys, hx8, hy8, rfl, ho5_, ho8_, hb2_⟩
  have o9_ := h0.below hb2_ (by first | omega | (simp; omega) | simp)
  have z10_ := hb2_.size
  have B11_ := (Below.refl w.heap.size w).trans (hb2_.mono (by first | omega | (simp; omega) | simp))
  clear hb2_
  by_cases h12_ : payB xs ys = true
  · have H12_ := Lib.hid h12_
    clear h12_
    have HNB : Hid (needB xs = true) := ((payB_iff _ _).1 H12_.out).1
    have hbd := need_bd HNB.out
    obtain ⟨hx1, hx4⟩ := hbd
    obtain ⟨hp1, hp2⟩ := pow_bd hx4
    have HPB := H12_
    have hyl0 := ((payB_iff _ _).1 H12_.out).2.1
    have hyl1 : ys.length ≤ xs.length := by omega
    have hyl2 : xs.length ≤ ys.length := by omega
    clear hyl0
    go_wp2_with fail
    refine (implPaysOk_any A3_ c4_ xs A6_ c7_ ys _ _ _ ho5_.ints (by first | omega | (simp; omega) | simp) (by omega) _ _ ho8_.ints (by first | omega | (simp; omega) | simp) (by omega)).mono ?_
    rintro e w13 ⟨he, hb13_⟩
    rw [H12_.out] at he
    subst he
    have o14_ := o9_.below hb13_ (by first | omega | (simp; omega) | simp)
    have o15_ := ho5_.below hb13_ (by first | omega | (simp; omega) | simp)
    have o16_ := ho8_.below hb13_ (by first | omega | (simp; omega) | simp)
    have z17_ := hb13_.size
    have B18_ := B11_.trans (hb13_.mono (by first | omega | (simp; omega) | simp))
    clear hb13_
    go_wp2_with fail
    refine (specPaysOk_any A3_ c4_ xs A6_ c7_ ys _ _ _ o15_.ints (by first | omega | (simp; omega) | simp) (by omega) _ _ o16_.ints (by first | omega | (simp; omega) | simp) (by omega)).mono ?_
    rintro e w19 ⟨he, hb19_⟩
    rw [H12_.out] at he
    subst he
    have o20_ := o14_.below hb19_ (by first | omega | (simp; omega) | simp)
    have o21_ := o15_.below hb19_ (by first | omega | (simp; omega) | simp)
    have o22_ := o16_.below hb19_ (by first | omega | (simp; omega) | simp)
    have z23_ := hb19_.size
    have B24_ := B18_.trans (hb19_.mono (by first | omega | (simp; omega) | simp))
    clear hb19_
    go_wp2
    go_loopw [6, 7] (fun ff kk wr => ∃ k : Nat, ∃ f : Nat, ff = .int .i64 f ∧ kk = .int .i64 k ∧ (k ≤ xs.length) ∧ (f < xs.length) ∧ (Top xs f k) ∧ Below w.heap.size w wr ∧ w19.heap.size ≤ wr.heap.size ∧ Bytes wr (w.heap.size) A0 bs ∧ Own wr (w.heap.size) (w1.heap.size) A3_ xs ∧ Own wr (w.heap.size) (w1.heap.size) A6_ ys) (fun ff kk _ => xs.length - (intOf kk).toNat)
    case atStart => exact ⟨0, 0, rfl, rfl, Nat.zero_le _, by omega, Top.zero xs 0, B24_, (by first | omega | (simp; omega) | simp), o20_, o21_, o22_⟩
    case round =>
      obtain ⟨k, f, rfl, rfl, hk, hff, htp, k26_, k27_, k28_, k29_, k30_⟩ := hrel
      obtain ⟨w25, rfl⟩ : ∃ x, x = wr := ⟨_, rfl⟩
      have HTP := Lib.hid htp
      clear htp
      by_cases hlt0 : k < xs.length
      · obtain ⟨b31_, f32_, rfl, b31_l, b31_h, -⟩ := k30_.ints (by omega)
        have c33_ : w25.cell? ⟨b31_, f32_ + k, none⟩ = some (.int .i64 (ys.getD k 0)) := k30_.ints.at2 k (by first | omega | (simp; omega) | simp)
        have c33_i : (k : Int) < (ys.length : Int) := by omega
        have c33_j : (0 : Int) ≤ (k : Int) := by omega
        have v34_g := payB_at HPB.out k
        obtain ⟨v34_, hv34_⟩ : ∃ v, v = ys.getD k 0 := ⟨_, rfl⟩
        rw [← hv34_] at c33_ v34_g
        have Hv34_ := Lib.hid hv34_
        clear hv34_
        obtain ⟨v34_g1, v34_g2⟩ := v34_g
        obtain ⟨b35_, f36_, rfl, b35_l, b35_h, -⟩ := k29_.ints (by omega)
        have c37_ : w25.cell? ⟨b35_, f36_ + k, none⟩ = some (.int .i64 (xs.getD k 0)) := k29_.ints.at2 k (by first | omega | (simp; omega) | simp)
        have c37_i : (k : Int) < (xs.length : Int) := by omega
        have c37_j : (0 : Int) ≤ (k : Int) := by omega
        have v38_g := need_rg HNB.out k
        obtain ⟨v38_, hv38_⟩ : ∃ v, v = xs.getD k 0 := ⟨_, rfl⟩
        rw [← hv38_] at c37_ v38_g
        have Hv38_ := Lib.hid hv38_
        clear hv38_
        obtain ⟨v38_g1, v38_g2⟩ := v38_g
        have h39_ : ¬ (v34_ > (48 * v38_)) := by have e := pay_alone HPB.out (k := k) (by omega); rw [← Hv34_.out, ← Hv38_.out] at e; omega
        have h39_d : decide (v34_ > (48 * v38_)) = false := decide_eq_false h39_
        have hw40_ : IntKind.i64.wrap (48 * v38_) = (48 * v38_) := IntWalk.i64_in _ (by omega)
        go_wp2
        go_quiet (fail)
        obtain ⟨w41, hw41⟩ : ∃ x, x = w25.drewN nq := ⟨_, rfl⟩
        have hb42_ : Below w25.heap.size w25 w41 := by rw [hw41]; exact below_drewN (Below.refl _ _) _
        rw [← hw41]
        clear hw41
        clear hw40_
        have o44_ := k28_.below hb42_ (by first | omega | (simp; omega) | simp)
        have o45_ := k29_.below hb42_ (by first | omega | (simp; omega) | simp)
        have o46_ := k30_.below hb42_ (by first | omega | (simp; omega) | simp)
        have z47_ := hb42_.size
        have B48_ := k26_.trans (hb42_.mono (by first | omega | (simp; omega) | simp))
        clear hb42_
        have c49_ : w41.cell? ⟨b35_, f36_ + k, none⟩ = some (.int .i64 v38_) := by rw [Hv38_.out]; exact o45_.ints.at2 k (by first | omega | (simp; omega) | simp)
        have c49_i : (k : Int) < (xs.length : Int) := by omega
        have c49_j : (0 : Int) ≤ (k : Int) := by omega
        have c50_ : w41.cell? ⟨b35_, f36_ + f, none⟩ = some (.int .i64 (xs.getD f 0)) := o45_.ints.at2 f (by first | omega | (simp; omega) | simp)
        have c50_i : (f : Int) < (xs.length : Int) := by omega
        have c50_j : (0 : Int) ≤ (f : Int) := by omega
        have v51_g := need_rg HNB.out f
        obtain ⟨v51_, hv51_⟩ : ∃ v, v = xs.getD f 0 := ⟨_, rfl⟩
        rw [← hv51_] at c50_ v51_g
        have Hv51_ := Lib.hid hv51_
        clear hv51_
        obtain ⟨v51_g1, v51_g2⟩ := v51_g
        go_wp2
        go_quiet (fail)
        obtain ⟨w52, hw52⟩ : ∃ x, x = w41.drewN nq := ⟨_, rfl⟩
        have hb53_ : Below w41.heap.size w41 w52 := by rw [hw52]; exact below_drewN (Below.refl _ _) _
        rw [← hw52]
        clear hw52
        have o55_ := o44_.below hb53_ (by first | omega | (simp; omega) | simp)
        have o56_ := o45_.below hb53_ (by first | omega | (simp; omega) | simp)
        have o57_ := o46_.below hb53_ (by first | omega | (simp; omega) | simp)
        have z58_ := hb53_.size
        have B59_ := B48_.trans (hb53_.mono (by first | omega | (simp; omega) | simp))
        clear hb53_
        by_cases h60_ : v38_ > v51_
        · have h60_d : decide (v38_ > v51_) = true := decide_eq_true h60_
          go_wp2
          go_roundw
          case rel => exact ⟨k + 1, k, by go_num, by go_num, by omega, by omega, HTP.out.turn Hv38_.out Hv51_.out h60_, B59_, (by first | omega | (simp; omega) | simp), o55_, o56_, o57_⟩
          case measure => simp [intOf] <;> omega
        · have h60_d : decide (v38_ > v51_) = false := decide_eq_false h60_
          go_wp2
          go_roundw
          case rel => exact ⟨k + 1, f, by go_num, by go_num, by omega, by omega, HTP.out.keep Hv38_.out Hv51_.out h60_, B59_, (by first | omega | (simp; omega) | simp), o55_, o56_, o57_⟩
          case measure => simp [intOf] <;> omega
      · obtain rfl : k = xs.length := by omega
        go_wp2
        go_loopw [8, 9] (fun gg kk wr => ∃ k : Nat, ∃ g : Int, gg = .int .i64 g ∧ kk = .int .i64 k ∧ (k ≤ xs.length) ∧ (0 ≤ g) ∧ (g ≤ 12) ∧ (Second xs f g k) ∧ Below w.heap.size w wr ∧ w25.heap.size ≤ wr.heap.size ∧ Bytes wr (w.heap.size) A0 bs ∧ Own wr (w.heap.size) (w1.heap.size) A3_ xs ∧ Own wr (w.heap.size) (w1.heap.size) A6_ ys) (fun gg kk _ => xs.length - (intOf kk).toNat)
        case atStart => exact ⟨0, 0, rfl, rfl, Nat.zero_le _, by omega, by omega, Second.zero xs f 0, k26_, (by first | omega | (simp; omega) | simp), k28_, k29_, k30_⟩
        case round =>
          obtain ⟨k, g, rfl, rfl, hk, hg0, hg12, hsc, k32_, k33_, k34_, k35_, k36_⟩ := hrel
          obtain ⟨w31, rfl⟩ : ∃ x, x = wr := ⟨_, rfl⟩
          have HSC := Lib.hid hsc
          clear hsc
          by_cases hlt2 : k < xs.length
          · by_cases h37_ : (k : Int) = (f : Int)
            · have h37_b : ((k : Int) == (f : Int)) = true := by simpa using h37_
              have h37_n : ((k : Int) != (f : Int)) = false := by simpa using h37_
              have h37_le : (k : Int) ≤ (f : Int) := by omega
              have h37_ge : (f : Int) ≤ (k : Int) := by omega
              have Hh37_ := Lib.hid h37_
              clear h37_
              go_wp2
              go_roundw
              case rel => exact ⟨k + 1, g, by go_num, by go_num, by omega, by omega, by omega, HSC.out.skip (by have e := Hh37_.out; omega), k32_, (by first | omega | (simp; omega) | simp), k34_, k35_, k36_⟩
              case measure => simp [intOf] <;> omega
            · have h37_b : ((k : Int) == (f : Int)) = false := by simpa using h37_
              have h37_n : ((k : Int) != (f : Int)) = true := by simpa using h37_
              obtain ⟨b38_, f39_, rfl, b38_l, b38_h, -⟩ := k35_.ints (by omega)
              have c40_ : w31.cell? ⟨b38_, f39_ + k, none⟩ = some (.int .i64 (xs.getD k 0)) := k35_.ints.at2 k (by first | omega | (simp; omega) | simp)
              have c40_i : (k : Int) < (xs.length : Int) := by omega
              have c40_j : (0 : Int) ≤ (k : Int) := by omega
              have v41_g := need_rg HNB.out k
              obtain ⟨v41_, hv41_⟩ : ∃ v, v = xs.getD k 0 := ⟨_, rfl⟩
              rw [← hv41_] at c40_ v41_g
              have Hv41_ := Lib.hid hv41_
              clear hv41_
              obtain ⟨v41_g1, v41_g2⟩ := v41_g
              obtain ⟨m42_, hm42_⟩ : ∃ m : Int, (if v41_ > g then v41_ else g) = m := ⟨_, rfl⟩
              have hm42_x : max g v41_ = m42_ := by rw [← hm42_]; split <;> omega
              have Hm42_ := Lib.hid hm42_x
              have m42_l : m42_ ≥ g := by have e := Hm42_.out; omega
              have m42_u : m42_ ≥ v41_ := by have e := Hm42_.out; omega
              have m42_o : m42_ = g ∨ m42_ = v41_ := by have e := Hm42_.out; omega
              go_wp2
              go_roundw
              case rel => exact ⟨k + 1, m42_, by go_num, by go_num, by omega, by omega, by omega, HSC.out.more Hv41_.out Hm42_.out, k32_, (by first | omega | (simp; omega) | simp), k34_, k35_, k36_⟩
              case measure => simp [intOf] <;> omega
          · obtain rfl : k = xs.length := by omega
            obtain ⟨b37_, f38_, rfl, b37_l, b37_h, -⟩ := k36_.ints (by omega)
            have c39_ : w31.cell? ⟨b37_, f38_ + f, none⟩ = some (.int .i64 (ys.getD f 0)) := k36_.ints.at2 f (by first | omega | (simp; omega) | simp)
            have c39_i : (f : Int) < (ys.length : Int) := by omega
            have c39_j : (0 : Int) ≤ (f : Int) := by omega
            have v40_g := payB_at HPB.out f
            obtain ⟨v40_, hv40_⟩ : ∃ v, v = ys.getD f 0 := ⟨_, rfl⟩
            rw [← hv40_] at c39_ v40_g
            have Hv40_ := Lib.hid hv40_
            clear hv40_
            obtain ⟨v40_g1, v40_g2⟩ := v40_g
            obtain ⟨b41_, f42_, rfl, b41_l, b41_h, -⟩ := k35_.ints (by omega)
            have c43_ : w31.cell? ⟨b41_, f42_ + f, none⟩ = some (.int .i64 (xs.getD f 0)) := k35_.ints.at2 f (by first | omega | (simp; omega) | simp)
            have c43_i : (f : Int) < (xs.length : Int) := by omega
            have c43_j : (0 : Int) ≤ (f : Int) := by omega
            have v44_g := need_rg HNB.out f
            obtain ⟨v44_, hv44_⟩ : ∃ v, v = xs.getD f 0 := ⟨_, rfl⟩
            rw [← hv44_] at c43_ v44_g
            have Hv44_ := Lib.hid hv44_
            clear hv44_
            obtain ⟨v44_g1, v44_g2⟩ := v44_g
            have h45_ : v40_ ≥ (48 * (v44_ - g)) := by have e := pay_first HPB.out (f := f) hff (HTP.out.all (need_rg HNB.out)) hg0 HSC.out; rw [← Hv40_.out, ← Hv44_.out] at e; omega
            have h45_d : decide (v40_ ≥ (48 * (v44_ - g))) = true := decide_eq_true h45_
            have hw46_ : IntKind.i64.wrap (v44_ - g) = (v44_ - g) := IntWalk.i64_in _ (by omega)
            have hw47_ : IntKind.i64.wrap (48 * (v44_ - g)) = (48 * (v44_ - g)) := IntWalk.i64_in _ (by omega)
            go_wp2
            go_quiet (fail)
            obtain ⟨w48, hw48⟩ : ∃ x, x = w31.drewN nq := ⟨_, rfl⟩
            have hb49_ : Below w31.heap.size w31 w48 := by rw [hw48]; exact below_drewN (Below.refl _ _) _
            rw [← hw48]
            clear hw48
            clear hw46_ hw47_
            have o51_ := k34_.below hb49_ (by first | omega | (simp; omega) | simp)
            have o52_ := k35_.below hb49_ (by first | omega | (simp; omega) | simp)
            have o53_ := k36_.below hb49_ (by first | omega | (simp; omega) | simp)
            have z54_ := hb49_.size
            have B55_ := k32_.trans (hb49_.mono (by first | omega | (simp; omega) | simp))
            clear hb49_
            go_wp2
            go_ret
            exact ⟨ret_bool (by first | exact rfl | exact (decide_eq_true (by omega)).trans rfl), B55_⟩
  · have H12_ : Hid (payB xs ys = false) := by show _ = _; simpa using h12_
    clear h12_
    go_wp2_with fail
    refine (implPaysOk_any A3_ c4_ xs A6_ c7_ ys _ _ _ ho5_.ints (by first | omega | (simp; omega) | simp) (by omega) _ _ ho8_.ints (by first | omega | (simp; omega) | simp) (by omega)).mono ?_
    rintro e w13 ⟨he, hb13_⟩
    rw [H12_.out] at he
    subst he
    have o14_ := o9_.below hb13_ (by first | omega | (simp; omega) | simp)
    have o15_ := ho5_.below hb13_ (by first | omega | (simp; omega) | simp)
    have o16_ := ho8_.below hb13_ (by first | omega | (simp; omega) | simp)
    have z17_ := hb13_.size
    have B18_ := B11_.trans (hb13_.mono (by first | omega | (simp; omega) | simp))
    clear hb13_
    go_wp2_with fail
    refine (specPaysOk_any A3_ c4_ xs A6_ c7_ ys _ _ _ o15_.ints (by first | omega | (simp; omega) | simp) (by omega) _ _ o16_.ints (by first | omega | (simp; omega) | simp) (by omega)).mono ?_
    rintro e w19 ⟨he, hb19_⟩
    rw [H12_.out] at he
    subst he
    have o20_ := o14_.below hb19_ (by first | omega | (simp; omega) | simp)
    have o21_ := o15_.below hb19_ (by first | omega | (simp; omega) | simp)
    have o22_ := o16_.below hb19_ (by first | omega | (simp; omega) | simp)
    have z23_ := hb19_.size
    have B24_ := B18_.trans (hb19_.mono (by first | omega | (simp; omega) | simp))
    clear hb19_
    go_wp2_with fail
    refine (alive_any _).mono ?_
    rintro e w25 ⟨rfl, hb25_⟩
    have o26_ := o20_.below hb25_ (by first | omega | (simp; omega) | simp)
    have o27_ := o21_.below hb25_ (by first | omega | (simp; omega) | simp)
    have o28_ := o22_.below hb25_ (by first | omega | (simp; omega) | simp)
    have z29_ := hb25_.size
    have B30_ := B24_.trans (hb25_.mono (by first | omega | (simp; omega) | simp))
    clear hb25_
    go_wp2
    go_ret
    exact ⟨ret_bool rfl, B30_⟩

set_option maxRecDepth 10000 in
set_option maxHeartbeats 400000 in
theorem fnPaysOk_big (A0 : Option Addr) (c0 : Nat) (bs : List Int) (w : World) (hl : ¬ bs.length ≤ 1048576) (hm : bs.length ≤ 9223372036854775807) :
    Calls Try.prog 7 #[.slice A0 bs.length c0] w fun e w' => e = .returned (.bool true) ∧ Below w.heap.size w w' := by
  go_enter Try.func7, Try.ntmps7
  go_wp2
  go_ret
  exact ⟨rfl, Below.refl _ _⟩

theorem fnPaysOk_all (A0 : Option Addr) (c0 : Nat) (bs : List Int) (w : World) (h0 : Bytes w w.heap.size A0 bs) (hm : bs.length ≤ 9223372036854775807) (hc0 : bs.length ≤ c0) :
    Calls Try.prog 7 #[.slice A0 bs.length c0] w fun e w' => e = .returned (.bool true) ∧ Below w.heap.size w w' := by
  by_cases hl : bs.length ≤ 1048576
  · exact fnPaysOk_walk A0 c0 bs w h0 hl hc0
  · exact fnPaysOk_big A0 c0 bs w hl hm

end Go.Proofs.Ytadphfiikkfjaaa
