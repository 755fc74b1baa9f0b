/-
  The law of FairRow returns true for every code, and writes nothing that was there. No condition.
-/
import Derived.Test.YtpdlppmkjkbboaaGA
import Derived.Test.YtpdlppmkjkbboaaDraw9
import Derived.Test.YtpdlppmkjkbboaaGridB
import Derived.Test.YtpdlppmkjkbboaaGame9I
import Derived.Test.YtpdlppmkjkbboaaGC
import Derived.Test.YtpdlppmkjkbboaaFx
import Derived.Deep.RegionHeld3
namespace Go.Proofs.Ytpdlppmkjkbboaa
open Go.RowKit

set_option maxRecDepth 10000 in
set_option maxHeartbeats 2000000 in
theorem fnFairRow_walk (A0 : Option Addr) (c0 : Nat) (bs : List Int) (w : World) (h0 : Bytes w w.heap.size A0 bs) (hl : bs.length ≤ 1048576) (hc0 : bs.length ≤ c0) :
    Calls Try.prog 5 #[.slice A0 bs.length c0] w fun e w' => e = .returned (.bool true) ∧ Below w.heap.size w w' := by
  have hlm : bs.length ≤ 9223372036854775807 := by omega
  go_enter Try.func5, Try.ntmps5
  have Htrue : Hid True := trivial
  have hc0u := hc0
  have h0u := h0
  have hlmu := hlm
  go_wp2_with fail
  refine (drawFairRow_any A0 c0 bs _ (h0.more (by first | omega | (simp; omega) | simp)) hlm hc0).mono ?_
  rintro e w1 ⟨A3_, c4_, B, hB4, hB6, rfl, Gd5_, hb2_⟩
  have o6_ := h0.below hb2_ (by first | omega | (simp; omega) | simp)
  have z7_ := hb2_.size
  have B8_ := (Below.refl w.heap.size w).trans (hb2_.mono (by first | omega | (simp; omega) | simp))
  clear hb2_
  have HB6 := Lib.hid hB6
  clear hB6
  go_wp2_with fail
  refine (implFairRow_any A3_ c4_ B _ _ _ Gd5_.grid (by first | omega | (simp; omega) | simp) (by omega)).mono ?_
  rintro e w9 ⟨A10_, c11_, rfl, ho12_, hb9_⟩
  have o13_ := o6_.below hb9_ (by first | omega | (simp; omega) | simp)
  have o14_ := Gd5_.below hb9_ (by first | omega | (simp; omega) | simp)
  have z15_ := hb9_.size
  have B16_ := B8_.trans (hb9_.mono (by first | omega | (simp; omega) | simp))
  clear hb9_
  go_wp2_with fail
  refine (specFairRow_any A3_ c4_ B _ _ _ o14_.grid (by first | omega | (simp; omega) | simp) (by omega)).mono ?_
  rintro e w17 ⟨A18_, c19_, rfl, ho20_, hb17_⟩
  have o21_ := o13_.below hb17_ (by first | omega | (simp; omega) | simp)
  have o22_ := o14_.below hb17_ (by first | omega | (simp; omega) | simp)
  have o23_ := ho12_.below hb17_ (by first | omega | (simp; omega) | simp)
  have z24_ := hb17_.size
  have B25_ := B16_.trans (hb17_.mono (by first | omega | (simp; omega) | simp))
  clear hb17_
  go_wp2_with fail
  refine (sameInts_yes A10_ A18_ c11_ c19_ (fairRow B) (fairRow B) _ _ _ _ _ o23_.ints ho20_.ints (by have e := fairRow_few B (by omega); omega) rfl).mono ?_
  rintro e w26 ⟨rfl, hb26_⟩
  have o27_ := o21_.below hb26_ (by first | omega | (simp; omega) | simp)
  have o28_ := o22_.below hb26_ (by first | omega | (simp; omega) | simp)
  have o29_ := o23_.below hb26_ (by first | omega | (simp; omega) | simp)
  have o30_ := ho20_.below hb26_ (by first | omega | (simp; omega) | simp)
  have z31_ := hb26_.size
  have B32_ := B25_.trans (hb26_.mono (by first | omega | (simp; omega) | simp))
  clear hb26_
  by_cases h33_ : ((fairRow B).length : Int) = 0
  · have h33_b : (((fairRow B).length : Int) == 0) = true := by simpa using h33_
    have h33_n : (((fairRow B).length : Int) != 0) = false := by simpa using h33_
    have h33_le : ((fairRow B).length : Int) ≤ 0 := by omega
    have h33_ge : 0 ≤ ((fairRow B).length : Int) := by omega
    have Hh33_ := Lib.hid h33_
    clear h33_
    have H34_ : Hid (bidB B = false) := by rw [Bool.eq_false_iff]; intro z; have e := Hh33_.out; rw [fairRow, if_pos z, fnRow_length] at e; have e2 := bidB_bd z; omega
    go_wp2_with fail
    refine (implBidsOk_any A3_ c4_ B _ _ _ o28_.grid (by first | omega | (simp; omega) | simp) (by omega)).mono ?_
    rintro e w35 ⟨he, hb35_⟩
    rw [H34_.out] at he
    subst he
    have o36_ := o27_.below hb35_ (by first | omega | (simp; omega) | simp)
    have o37_ := o28_.below hb35_ (by first | omega | (simp; omega) | simp)
    have o38_ := o29_.below hb35_ (by first | omega | (simp; omega) | simp)
    have o39_ := o30_.below hb35_ (by first | omega | (simp; omega) | simp)
    have z40_ := hb35_.size
    have B41_ := B32_.trans (hb35_.mono (by first | omega | (simp; omega) | simp))
    clear hb35_
    go_wp2_with fail
    refine (alive_any _).mono ?_
    rintro e w42 ⟨rfl, hb42_⟩
    have o43_ := o36_.below hb42_ (by first | omega | (simp; omega) | simp)
    have o44_ := o37_.below hb42_ (by first | omega | (simp; omega) | simp)
    have o45_ := o38_.below hb42_ (by first | omega | (simp; omega) | simp)
    have o46_ := o39_.below hb42_ (by first | omega | (simp; omega) | simp)
    have z47_ := hb42_.size
    have B48_ := B41_.trans (hb42_.mono (by first | omega | (simp; omega) | simp))
    clear hb42_
    go_wp2
    go_ret
    exact ⟨ret_bool (by first | exact rfl | exact h33_b.trans rfl), B48_⟩
  · have h33_b : (((fairRow B).length : Int) == 0) = false := by simpa using h33_
    have h33_n : (((fairRow B).length : Int) != 0) = true := by simpa using h33_
    have HBQ : Hid (bidB B = true) := by show _ = _; cases z : bidB B with | true => rfl | false => exact absurd (by rw [fairRow, if_neg (by rw [z]; simp)]; rfl) h33_
    have HBO := Lib.hid HBQ.out
    have hbd := bidB_bd HBO.out
    obtain ⟨hB2, hB4', hT4⟩ := hbd
    have HTL := Lib.hid (takersRow_len HBO.out)
    have htl1 : (takersRow B).length ≤ things B := by have e := HTL.out; omega
    have htl2 : things B ≤ (takersRow B).length := by have e := HTL.out; omega
    have HFL : Hid ((fairRow B).length = B.length) := by show _ = _; rw [fairRow_yes HBO.out, fnRow_length]
    have hfl1 : (fairRow B).length ≤ B.length := by have e := HFL.out; omega
    have hfl2 : B.length ≤ (fairRow B).length := by have e := HFL.out; omega
    have HPL : Hid ((paidRow B).length = B.length) := by show _ = _; rw [paidRow, if_pos HBO.out, fnRow_length]
    have hpl1 : (paidRow B).length ≤ B.length := by have e := HPL.out; omega
    have hpl2 : B.length ≤ (paidRow B).length := by have e := HPL.out; omega
    have HEL : Hid ((endRow B).length = B.length) := by show _ = _; rw [endRow, if_pos HBO.out, fnRow_length]
    have hel1 : (endRow B).length ≤ B.length := by have e := HEL.out; omega
    have hel2 : B.length ≤ (endRow B).length := by have e := HEL.out; omega
    go_wp2
    go_loopw [5] (fun kk wr => ∃ k : Nat, kk = .int .i64 k ∧ (k ≤ (fairRow B).length) ∧ Below w.heap.size w wr ∧ w26.heap.size ≤ wr.heap.size ∧ Bytes wr (w.heap.size) A0 bs ∧ GridS wr (w.heap.size) (w1.heap.size) A3_ B ∧ Own wr (w1.heap.size) (w9.heap.size) A10_ (fairRow B) ∧ Own wr (w9.heap.size) (w17.heap.size) A18_ (fairRow B)) (fun kk _ => (fairRow B).length - (intOf kk).toNat)
    case atStart => exact ⟨0, rfl, Nat.zero_le _, B32_, (by first | omega | (simp; omega) | simp), o27_, o28_, o29_, o30_⟩
    case round =>
      obtain ⟨k, rfl, hk, k35_, k36_, k37_, k38_, k39_, k40_⟩ := hrel
      obtain ⟨w34, rfl⟩ : ∃ x, x = wr := ⟨_, rfl⟩
      by_cases hlt0 : k < (fairRow B).length
      · obtain ⟨b41_, f42_, rfl, b41_l, b41_h, -⟩ := k39_.ints (by omega)
        have c43_ : w34.cell? ⟨b41_, f42_ + k, none⟩ = some (.int .i64 ((fairRow B).getD k 0)) := k39_.ints.at2 k (by first | omega | (simp; omega) | simp)
        have c43_i : (k : Int) < ((fairRow B).length : Int) := by omega
        have c43_j : (0 : Int) ≤ (k : Int) := by omega
        have v44_g := fairRow_rg HBO.out k
        obtain ⟨v44_, hv44_⟩ : ∃ v, v = (fairRow B).getD k 0 := ⟨_, rfl⟩
        rw [← hv44_] at c43_ v44_g
        have Hv44_ := Lib.hid hv44_
        clear hv44_
        obtain ⟨v44_g1, v44_g2⟩ := v44_g
        obtain ⟨P45_, hP45_⟩ : ∃ P, v44_ * (B.length : Int) = P := ⟨_, rfl⟩
        have bP45_ := mul_len_rg (n := B.length) hB4 (show -20000 ≤ v44_ by omega) (show v44_ ≤ 20000 by omega)
        rw [hP45_] at bP45_
        obtain ⟨bP45_, bP45_'⟩ := bP45_
        have wP45_ : IntKind.i64.wrap P45_ = P45_ := IntWalk.i64_in _ (by omega)
        obtain ⟨b46_, f47_, rfl, _, b46_h, -⟩ := k38_ (by omega)
        obtain ⟨b54_, f55_, d49_, c50_, F51_, rm53_⟩ := k38_.at_ k (by omega)
        obtain ⟨y52_, hy52_⟩ : ∃ y_, B.getD k [] = y_ := ⟨_, rfl⟩
        rw [hy52_] at c50_ F51_ rm53_
        have qy52_ := row_th HBO.out (k := k) (by omega) hy52_
        obtain ⟨qy52_a, qy52_b⟩ := qy52_
        have Hy52_ := Lib.hid hy52_
        clear hy52_
        have c50_ : w34.cell? ⟨b46_, f47_ + k, none⟩ = some (.slice (some ⟨b54_, f55_, none⟩) y52_.length d49_) := c50_
        have c50_i : (k : Int) < (B.length : Int) := by omega
        have c50_j : (0 : Int) ≤ (k : Int) := by omega
        obtain ⟨v56_, hv56_⟩ : ∃ v, y52_.sum = v := ⟨_, rfl⟩
        have v56_g := row_sum_rg HBO.out (by omega) Hy52_.out
        rw [hv56_] at v56_g
        obtain ⟨v56_g1, v56_g2⟩ := v56_g
        have Hv56_ := Lib.hid hv56_
        clear hv56_
        have h57_ : P45_ = (48 * v56_) := by rw [← hP45_, Hv44_.out, fairRow_yes HBO.out, fnRow_getD _ (by omega), fair_times ((bidB_iff B).1 HBO.out), Hy52_.out, Hv56_.out]
        have h57_b : (P45_ == (48 * v56_)) = true := by simpa using h57_
        have h57_n : (P45_ != (48 * v56_)) = false := by simpa using h57_
        have h57_le : P45_ ≤ (48 * v56_) := by omega
        have h57_ge : (48 * v56_) ≤ P45_ := by omega
        have Hh57_ := Lib.hid h57_
        clear h57_
        have hw58_ : IntKind.i64.wrap P45_ = P45_ := IntWalk.i64_in _ (by omega)
        have hw59_ : IntKind.i64.wrap (48 * v56_) = (48 * v56_) := IntWalk.i64_in _ (by omega)
        go_wp2
        go_quiet ((go_at_call 27; exact quiet_left1 (same_is (lsumOf_any (some ⟨b54_, f55_, none⟩) d49_ y52_ _ _ _ F51_ (row_small HBO.out (by omega) Hy52_.out)) (congrArg (Value.int .i64) Hv56_.out))))
        obtain ⟨w60, hw60⟩ : ∃ x, x = w34.drewN nq := ⟨_, rfl⟩
        have hb61_ : Below w34.heap.size w34 w60 := by rw [hw60]; exact below_drewN (Below.refl _ _) _
        rw [← hw60]
        clear hw60
        clear hw58_ hw59_
        have o63_ := k37_.below hb61_ (by first | omega | (simp; omega) | simp)
        have o64_ := k38_.below hb61_ (by first | omega | (simp; omega) | simp)
        have o65_ := k39_.below hb61_ (by first | omega | (simp; omega) | simp)
        have o66_ := k40_.below hb61_ (by first | omega | (simp; omega) | simp)
        have o67_ := F51_.below hb61_ (by first | omega | (simp; omega) | simp)
        have z68_ := hb61_.size
        have B69_ := k35_.trans (hb61_.mono (by first | omega | (simp; omega) | simp))
        clear hb61_
        go_wp2
        go_roundw
        case rel => exact ⟨k + 1, by go_num, by omega, B69_, (by first | omega | (simp; omega) | simp), o63_, o64_, o65_, o66_⟩
        case measure => simp [intOf] <;> omega
      · have h41_ : ((fairRow B).length : Int) = (B.length : Int) := by omega
        have h41_b : (((fairRow B).length : Int) == (B.length : Int)) = true := by simpa using h41_
        have h41_n : (((fairRow B).length : Int) != (B.length : Int)) = false := by simpa using h41_
        have h41_le : ((fairRow B).length : Int) ≤ (B.length : Int) := by omega
        have h41_ge : (B.length : Int) ≤ ((fairRow B).length : Int) := by omega
        have Hh41_ := Lib.hid h41_
        clear h41_
        go_wp2
        go_ret
        exact ⟨ret_bool (by first | exact rfl | exact h41_b.trans rfl), k35_⟩

set_option maxRecDepth 10000 in
set_option maxHeartbeats 400000 in
theorem fnFairRow_big (A0 : Option Addr) (c0 : Nat) (bs : List Int) (w : World) (hl : ¬ bs.length ≤ 1048576) (hm : bs.length ≤ 9223372036854775807) :
    Calls Try.prog 5 #[.slice A0 bs.length c0] w fun e w' => e = .returned (.bool true) ∧ Below w.heap.size w w' := by
  go_enter Try.func5, Try.ntmps5
  go_wp2
  go_ret
  exact ⟨rfl, Below.refl _ _⟩

theorem fnFairRow_all (A0 : Option Addr) (c0 : Nat) (bs : List Int) (w : World) (h0 : Bytes w w.heap.size A0 bs) (hm : bs.length ≤ 9223372036854775807) (hc0 : bs.length ≤ c0) :
    Calls Try.prog 5 #[.slice A0 bs.length c0] w fun e w' => e = .returned (.bool true) ∧ Below w.heap.size w w' := by
  by_cases hl : bs.length ≤ 1048576
  · exact fnFairRow_walk A0 c0 bs w h0 hl hc0
  · exact fnFairRow_big A0 c0 bs w hl hm

end Go.Proofs.Ytpdlppmkjkbboaa
