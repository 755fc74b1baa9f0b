/-
  The law of RunwayShares returns true for every code, and writes nothing that was there. No condition.
-/
import Derived.Test.YtbegdcnljafloaaGA
import Derived.Test.YtbegdcnljafloaaDraw10
import Derived.Test.YtbegdcnljafloaaRunL
import Derived.Test.YtbegdcnljafloaaGame10I
import Derived.Test.YtbegdcnljafloaaGC
import Derived.Test.YtbegdcnljafloaaFx
import Derived.Deep.RegionHeld3
namespace Go.Proofs.Ytbegdcnljafloaa
open Go.RowKit

set_option maxRecDepth 10000 in
set_option maxHeartbeats 2000000 in
theorem fnRunwayShares_walk (A0 : Option Addr) (c0 : Nat) (bs : List Int) (w : World) (h0 : Bytes w w.heap.size A0 bs) (hl : bs.length ≤ 1048576) (hc0 : bs.length ≤ c0) :
    Calls Try.prog 6 #[.slice A0 bs.length c0] w fun e w' => e = .returned (.bool true) ∧ Below w.heap.size w w' := by
  have hlm : bs.length ≤ 9223372036854775807 := by omega
  go_enter Try.func6, Try.ntmps6
  have Htrue : Hid True := trivial
  have hc0u := hc0
  have h0u := h0
  have hlmu := hlm
  go_wp2_with fail
  refine (drawRunwayShares_any A0 c0 bs _ (h0.more (by first | omega | (simp; omega) | simp)) hlm hc0).mono ?_
  rintro e w1 ⟨A3_, c4_, xs, hx8, rfl, ho5_, hb2_⟩
  have o6_ := h0.below hb2_ (by first | omega | (simp; omega) | simp)
  have z7_ := hb2_.size
  have B8_ := (Below.refl w.heap.size w).trans (hb2_.mono (by first | omega | (simp; omega) | simp))
  clear hb2_
  go_wp2_with fail
  refine (implRunwayShares_any A3_ c4_ xs _ _ _ ho5_.ints (by first | omega | (simp; omega) | simp) (by omega)).mono ?_
  rintro e w9 ⟨A10_, c11_, rfl, ho12_, hb9_⟩
  have o13_ := o6_.below hb9_ (by first | omega | (simp; omega) | simp)
  have o14_ := ho5_.below hb9_ (by first | omega | (simp; omega) | simp)
  have z15_ := hb9_.size
  have B16_ := B8_.trans (hb9_.mono (by first | omega | (simp; omega) | simp))
  clear hb9_
  go_wp2_with fail
  refine (specRunwayShares_any A3_ c4_ xs _ _ _ o14_.ints (by first | omega | (simp; omega) | simp) (by omega)).mono ?_
  rintro e w17 ⟨A18_, c19_, rfl, ho20_, hb17_⟩
  have o21_ := o13_.below hb17_ (by first | omega | (simp; omega) | simp)
  have o22_ := o14_.below hb17_ (by first | omega | (simp; omega) | simp)
  have o23_ := ho12_.below hb17_ (by first | omega | (simp; omega) | simp)
  have z24_ := hb17_.size
  have B25_ := B16_.trans (hb17_.mono (by first | omega | (simp; omega) | simp))
  clear hb17_
  go_wp2_with fail
  refine (sameInts_yes A10_ A18_ c11_ c19_ (sharesRow xs) (sharesRow xs) _ _ _ _ _ o23_.ints ho20_.ints (by have e := sharesRow_len4 xs; omega) rfl).mono ?_
  rintro e w26 ⟨rfl, hb26_⟩
  have o27_ := o21_.below hb26_ (by first | omega | (simp; omega) | simp)
  have o28_ := o22_.below hb26_ (by first | omega | (simp; omega) | simp)
  have o29_ := o23_.below hb26_ (by first | omega | (simp; omega) | simp)
  have o30_ := ho20_.below hb26_ (by first | omega | (simp; omega) | simp)
  have z31_ := hb26_.size
  have B32_ := B25_.trans (hb26_.mono (by first | omega | (simp; omega) | simp))
  clear hb26_
  by_cases h33_ : ((sharesRow xs).length : Int) = 0
  · have h33_b : (((sharesRow xs).length : Int) == 0) = true := by simpa using h33_
    have h33_n : (((sharesRow xs).length : Int) != 0) = false := by simpa using h33_
    have h33_le : ((sharesRow xs).length : Int) ≤ 0 := by omega
    have h33_ge : 0 ≤ ((sharesRow xs).length : Int) := by omega
    have Hh33_ := Lib.hid h33_
    clear h33_
    have H34_ : Hid (needB xs = false) := sharesRow_none (by omega)
    go_wp2_with fail
    refine (implNeedsOk_any A3_ c4_ xs _ _ _ o28_.ints (by first | omega | (simp; omega) | simp) (by omega)).mono ?_
    rintro e w35 ⟨he, hb35_⟩
    rw [H34_.out] at he
    subst he
    have o36_ := o27_.below hb35_ (by first | omega | (simp; omega) | simp)
    have o37_ := o28_.below hb35_ (by first | omega | (simp; omega) | simp)
    have o38_ := o29_.below hb35_ (by first | omega | (simp; omega) | simp)
    have o39_ := o30_.below hb35_ (by first | omega | (simp; omega) | simp)
    have z40_ := hb35_.size
    have B41_ := B32_.trans (hb35_.mono (by first | omega | (simp; omega) | simp))
    clear hb35_
    go_wp2_with fail
    refine (alive_any _).mono ?_
    rintro e w42 ⟨rfl, hb42_⟩
    have o43_ := o36_.below hb42_ (by first | omega | (simp; omega) | simp)
    have o44_ := o37_.below hb42_ (by first | omega | (simp; omega) | simp)
    have o45_ := o38_.below hb42_ (by first | omega | (simp; omega) | simp)
    have o46_ := o39_.below hb42_ (by first | omega | (simp; omega) | simp)
    have z47_ := hb42_.size
    have B48_ := B41_.trans (hb42_.mono (by first | omega | (simp; omega) | simp))
    clear hb42_
    go_wp2
    go_ret
    exact ⟨ret_bool (by first | exact rfl | exact h33_b.trans rfl), B48_⟩
  · have h33_b : (((sharesRow xs).length : Int) == 0) = false := by simpa using h33_
    have h33_n : (((sharesRow xs).length : Int) != 0) = true := by simpa using h33_
    have HNB : Hid (needB xs = true) := sharesRow_some (xs := xs) (by omega)
    have hbd := need_bd HNB.out
    obtain ⟨hx1, hx4⟩ := hbd
    obtain ⟨hp1, hp2⟩ := pow_bd hx4
    have HRW : Hid (sharesRow xs = shareR xs) := sharesRow_yes HNB.out
    have HLO : Hid ((sharesRow xs).length = xs.length) := by show _ = _; rw [HRW.out, shareR_length]
    have hlo1 : (sharesRow xs).length ≤ xs.length := by have e := HLO.out; omega
    have hlo2 : xs.length ≤ (sharesRow xs).length := by have e := HLO.out; omega
    go_wp2
    go_loopw [5] (fun kk wr => ∃ k : Nat, kk = .int .i64 k ∧ (k ≤ (sharesRow xs).length) ∧ Below w.heap.size w wr ∧ w26.heap.size ≤ wr.heap.size ∧ Bytes wr (w.heap.size) A0 bs ∧ Own wr (w.heap.size) (w1.heap.size) A3_ xs ∧ Own wr (w1.heap.size) (w9.heap.size) A10_ (sharesRow xs) ∧ Own wr (w9.heap.size) (w17.heap.size) A18_ (sharesRow xs)) (fun kk _ => (sharesRow xs).length - (intOf kk).toNat)
    case atStart => exact ⟨0, rfl, Nat.zero_le _, B32_, (by first | omega | (simp; omega) | simp), o27_, o28_, o29_, o30_⟩
    case round =>
      obtain ⟨k, rfl, hk, k35_, k36_, k37_, k38_, k39_, k40_⟩ := hrel
      obtain ⟨w34, rfl⟩ : ∃ x, x = wr := ⟨_, rfl⟩
      by_cases hlt0 : k < (sharesRow xs).length
      · go_wp2
        go_loopw [6] (fun jj wr => ∃ j : Nat, jj = .int .i64 j ∧ (j ≤ (sharesRow xs).length) ∧ Below w.heap.size w wr ∧ w34.heap.size ≤ wr.heap.size ∧ Bytes wr (w.heap.size) A0 bs ∧ Own wr (w.heap.size) (w1.heap.size) A3_ xs ∧ Own wr (w1.heap.size) (w9.heap.size) A10_ (sharesRow xs) ∧ Own wr (w9.heap.size) (w17.heap.size) A18_ (sharesRow xs)) (fun jj _ => (sharesRow xs).length - (intOf jj).toNat)
        case atStart => exact ⟨0, rfl, Nat.zero_le _, k35_, (by first | omega | (simp; omega) | simp), k37_, k38_, k39_, k40_⟩
        case round =>
          obtain ⟨j, rfl, hj, k42_, k43_, k44_, k45_, k46_, k47_⟩ := hrel
          obtain ⟨w41, rfl⟩ : ∃ x, x = wr := ⟨_, rfl⟩
          by_cases hlt2 : j < (sharesRow xs).length
          · obtain ⟨b48_, f49_, rfl, b48_l, b48_h, -⟩ := k45_.ints (by omega)
            have c50_ : w41.cell? ⟨b48_, f49_ + k, none⟩ = some (.int .i64 (xs.getD k 0)) := k45_.ints.at2 k (by first | omega | (simp; omega) | simp)
            have c50_i : (k : Int) < (xs.length : Int) := by omega
            have c50_j : (0 : Int) ≤ (k : Int) := by omega
            have v51_g := need_rg HNB.out k
            obtain ⟨v51_, hv51_⟩ : ∃ v, v = xs.getD k 0 := ⟨_, rfl⟩
            rw [← hv51_] at c50_ v51_g
            have Hv51_ := Lib.hid hv51_
            clear hv51_
            obtain ⟨v51_g1, v51_g2⟩ := v51_g
            have c52_ : w41.cell? ⟨b48_, f49_ + j, none⟩ = some (.int .i64 (xs.getD j 0)) := k45_.ints.at2 j (by first | omega | (simp; omega) | simp)
            have c52_i : (j : Int) < (xs.length : Int) := by omega
            have c52_j : (0 : Int) ≤ (j : Int) := by omega
            have v53_g := need_rg HNB.out j
            obtain ⟨v53_, hv53_⟩ : ∃ v, v = xs.getD j 0 := ⟨_, rfl⟩
            rw [← hv53_] at c52_ v53_g
            have Hv53_ := Lib.hid hv53_
            clear hv53_
            obtain ⟨v53_g1, v53_g2⟩ := v53_g
            by_cases h54_ : v51_ ≤ v53_
            · have h54_d : decide (v51_ ≤ v53_) = true := decide_eq_true h54_
              obtain ⟨b55_, f56_, rfl, b55_l, b55_h, -⟩ := k46_.ints (by omega)
              have c57_ : w41.cell? ⟨b55_, f56_ + k, none⟩ = some (.int .i64 ((sharesRow xs).getD k 0)) := k46_.ints.at2 k (by first | omega | (simp; omega) | simp)
              have c57_i : (k : Int) < ((sharesRow xs).length : Int) := by omega
              have c57_j : (0 : Int) ≤ (k : Int) := by omega
              have v58_g := sharesRow_rg xs k
              obtain ⟨v58_, hv58_⟩ : ∃ v, v = (sharesRow xs).getD k 0 := ⟨_, rfl⟩
              rw [← hv58_] at c57_ v58_g
              have Hv58_ := Lib.hid hv58_
              clear hv58_
              obtain ⟨v58_g1, v58_g2⟩ := v58_g
              have c59_ : w41.cell? ⟨b55_, f56_ + j, none⟩ = some (.int .i64 ((sharesRow xs).getD j 0)) := k46_.ints.at2 j (by first | omega | (simp; omega) | simp)
              have c59_i : (j : Int) < ((sharesRow xs).length : Int) := by omega
              have c59_j : (0 : Int) ≤ (j : Int) := by omega
              have v60_g := sharesRow_rg xs j
              obtain ⟨v60_, hv60_⟩ : ∃ v, v = (sharesRow xs).getD j 0 := ⟨_, rfl⟩
              rw [← hv60_] at c59_ v60_g
              have Hv60_ := Lib.hid hv60_
              clear hv60_
              obtain ⟨v60_g1, v60_g2⟩ := v60_g
              have h61_ : ¬ (v58_ > v60_) := by have e := shares_mono HNB.out (k := k) (j := j) (by omega) (by omega) (by rw [← Hv51_.out, ← Hv53_.out]; omega); rw [← Hv58_.out, ← Hv60_.out] at e; omega
              have h61_d : decide (v58_ > v60_) = false := decide_eq_false h61_
              go_wp2
              go_quiet (fail)
              obtain ⟨w62, hw62⟩ : ∃ x, x = w41.drewN nq := ⟨_, rfl⟩
              have hb63_ : Below w41.heap.size w41 w62 := by rw [hw62]; exact below_drewN (Below.refl _ _) _
              rw [← hw62]
              clear hw62
              have o65_ := k44_.below hb63_ (by first | omega | (simp; omega) | simp)
              have o66_ := k45_.below hb63_ (by first | omega | (simp; omega) | simp)
              have o67_ := k46_.below hb63_ (by first | omega | (simp; omega) | simp)
              have o68_ := k47_.below hb63_ (by first | omega | (simp; omega) | simp)
              have z69_ := hb63_.size
              have B70_ := k42_.trans (hb63_.mono (by first | omega | (simp; omega) | simp))
              clear hb63_
              go_wp2
              go_roundw
              case rel => exact ⟨j + 1, by go_num, by omega, B70_, (by first | omega | (simp; omega) | simp), o65_, o66_, o67_, o68_⟩
              case measure => simp [intOf] <;> omega
            · have h54_d : decide (v51_ ≤ v53_) = false := decide_eq_false h54_
              go_wp2
              go_quiet (fail)
              obtain ⟨w55, hw55⟩ : ∃ x, x = w41.drewN nq := ⟨_, rfl⟩
              have hb56_ : Below w41.heap.size w41 w55 := by rw [hw55]; exact below_drewN (Below.refl _ _) _
              rw [← hw55]
              clear hw55
              have o58_ := k44_.below hb56_ (by first | omega | (simp; omega) | simp)
              have o59_ := k45_.below hb56_ (by first | omega | (simp; omega) | simp)
              have o60_ := k46_.below hb56_ (by first | omega | (simp; omega) | simp)
              have o61_ := k47_.below hb56_ (by first | omega | (simp; omega) | simp)
              have z62_ := hb56_.size
              have B63_ := k42_.trans (hb56_.mono (by first | omega | (simp; omega) | simp))
              clear hb56_
              go_wp2
              go_roundw
              case rel => exact ⟨j + 1, by go_num, by omega, B63_, (by first | omega | (simp; omega) | simp), o58_, o59_, o60_, o61_⟩
              case measure => simp [intOf] <;> omega
          · obtain rfl : j = (sharesRow xs).length := by omega
            go_wp2
            go_roundw
            case rel => exact ⟨k + 1, by go_num, by omega, k42_, (by first | omega | (simp; omega) | simp), k44_, k45_, k46_, k47_⟩
            case measure => simp [intOf] <;> omega
      · obtain rfl : k = (sharesRow xs).length := by omega
        have H41_ : Hid (payB xs (sharesRow xs) = true) := by show _ = _; rw [HRW.out]; exact share_payB HNB.out
        go_wp2_with fail
        refine (implPaysOk_any A3_ c4_ xs A10_ c11_ (sharesRow xs) _ _ _ k38_.ints (by first | omega | (simp; omega) | simp) (by omega) _ _ k39_.ints (by first | omega | (simp; omega) | simp) (by have e := sharesRow_len4 xs; omega)).mono ?_
        rintro e w42 ⟨he, hb42_⟩
        rw [H41_.out] at he
        subst he
        have o43_ := k37_.below hb42_ (by first | omega | (simp; omega) | simp)
        have o44_ := k38_.below hb42_ (by first | omega | (simp; omega) | simp)
        have o45_ := k39_.below hb42_ (by first | omega | (simp; omega) | simp)
        have o46_ := k40_.below hb42_ (by first | omega | (simp; omega) | simp)
        have z47_ := hb42_.size
        have B48_ := k35_.trans (hb42_.mono (by first | omega | (simp; omega) | simp))
        clear hb42_
        go_wp2_with fail
        refine (implRunwayOrders_any A3_ c4_ xs _ _ _ o44_.ints (by first | omega | (simp; omega) | simp) (by omega)).mono ?_
        rintro e w49 ⟨A50_, c51_, rfl, ho52_, hb49_⟩
        have o53_ := o43_.below hb49_ (by first | omega | (simp; omega) | simp)
        have o54_ := o44_.below hb49_ (by first | omega | (simp; omega) | simp)
        have o55_ := o45_.below hb49_ (by first | omega | (simp; omega) | simp)
        have o56_ := o46_.below hb49_ (by first | omega | (simp; omega) | simp)
        have z57_ := hb49_.size
        have B58_ := B48_.trans (hb49_.mono (by first | omega | (simp; omega) | simp))
        clear hb49_
        go_wp2_with fail
        refine (sameInts_yes A50_ A10_ c51_ c11_ (sharesRow xs) (sharesRow xs) _ _ _ _ _ ho52_.ints o55_.ints (by have e := sharesRow_len4 xs; omega) rfl).mono ?_
        rintro e w59 ⟨rfl, hb59_⟩
        have o60_ := o53_.below hb59_ (by first | omega | (simp; omega) | simp)
        have o61_ := o54_.below hb59_ (by first | omega | (simp; omega) | simp)
        have o62_ := o55_.below hb59_ (by first | omega | (simp; omega) | simp)
        have o63_ := o56_.below hb59_ (by first | omega | (simp; omega) | simp)
        have o64_ := ho52_.below hb59_ (by first | omega | (simp; omega) | simp)
        have z65_ := hb59_.size
        have B66_ := B58_.trans (hb59_.mono (by first | omega | (simp; omega) | simp))
        clear hb59_
        go_wp2
        go_ret
        exact ⟨ret_bool (by first | exact rfl | exact h33_b.trans rfl), B66_⟩

set_option maxRecDepth 10000 in
set_option maxHeartbeats 400000 in
theorem fnRunwayShares_big (A0 : Option Addr) (c0 : Nat) (bs : List Int) (w : World) (hl : ¬ bs.length ≤ 1048576) (hm : bs.length ≤ 9223372036854775807) :
    Calls Try.prog 6 #[.slice A0 bs.length c0] w fun e w' => e = .returned (.bool true) ∧ Below w.heap.size w w' := by
  go_enter Try.func6, Try.ntmps6
  go_wp2
  go_ret
  exact ⟨rfl, Below.refl _ _⟩

theorem fnRunwayShares_all (A0 : Option Addr) (c0 : Nat) (bs : List Int) (w : World) (h0 : Bytes w w.heap.size A0 bs) (hm : bs.length ≤ 9223372036854775807) (hc0 : bs.length ≤ c0) :
    Calls Try.prog 6 #[.slice A0 bs.length c0] w fun e w' => e = .returned (.bool true) ∧ Below w.heap.size w w' := by
  by_cases hl : bs.length ≤ 1048576
  · exact fnRunwayShares_walk A0 c0 bs w h0 hl hc0
  · exact fnRunwayShares_big A0 c0 bs w hl hm

end Go.Proofs.Ytbegdcnljafloaa
