/-
  The law of TakersOf returns true for every code, and writes nothing that was there. No condition.
-/
import Derived.Test.YtpdlppmkjkbboaaGA
import Derived.Test.YtpdlppmkjkbboaaDraw9
import Derived.Test.YtpdlppmkjkbboaaGridB
import Derived.Test.YtpdlppmkjkbboaaGame9I
import Derived.Test.YtpdlppmkjkbboaaGC
import Derived.Test.YtpdlppmkjkbboaaFx
import Derived.Deep.RegionHeld3
namespace Go.Proofs.Ytpdlppmkjkbboaa
open Go.RowKit

set_option maxRecDepth 10000 in
set_option maxHeartbeats 2000000 in
theorem fnTakersOf_walk (A0 : Option Addr) (c0 : Nat) (bs : List Int) (w : World) (h0 : Bytes w w.heap.size A0 bs) (hl : bs.length ≤ 1048576) (hc0 : bs.length ≤ c0) :
    Calls Try.prog 4 #[.slice A0 bs.length c0] w fun e w' => e = .returned (.bool true) ∧ Below w.heap.size w w' := by
  have hlm : bs.length ≤ 9223372036854775807 := by omega
  go_enter Try.func4, Try.ntmps4
  have Htrue : Hid True := trivial
  have hc0u := hc0
  have h0u := h0
  have hlmu := hlm
  go_wp2_with fail
  refine (drawTakersOf_any A0 c0 bs _ (h0.more (by first | omega | (simp; omega) | simp)) hlm hc0).mono ?_
  rintro e w1 ⟨A3_, c4_, B, hB4, hB6, rfl, Gd5_, hb2_⟩
  have o6_ := h0.below hb2_ (by first | omega | (simp; omega) | simp)
  have z7_ := hb2_.size
  have B8_ := (Below.refl w.heap.size w).trans (hb2_.mono (by first | omega | (simp; omega) | simp))
  clear hb2_
  have HB6 := Lib.hid hB6
  clear hB6
  go_wp2_with fail
  refine (implTakersOf_any A3_ c4_ B _ _ _ Gd5_.grid (by first | omega | (simp; omega) | simp) (by omega)).mono ?_
  rintro e w9 ⟨A10_, c11_, rfl, ho12_, hb9_⟩
  have o13_ := o6_.below hb9_ (by first | omega | (simp; omega) | simp)
  have o14_ := Gd5_.below hb9_ (by first | omega | (simp; omega) | simp)
  have z15_ := hb9_.size
  have B16_ := B8_.trans (hb9_.mono (by first | omega | (simp; omega) | simp))
  clear hb9_
  go_wp2_with fail
  refine (specTakersOf_any A3_ c4_ B _ _ _ o14_.grid (by first | omega | (simp; omega) | simp) (by omega)).mono ?_
  rintro e w17 ⟨A18_, c19_, rfl, ho20_, hb17_⟩
  have o21_ := o13_.below hb17_ (by first | omega | (simp; omega) | simp)
  have o22_ := o14_.below hb17_ (by first | omega | (simp; omega) | simp)
  have o23_ := ho12_.below hb17_ (by first | omega | (simp; omega) | simp)
  have z24_ := hb17_.size
  have B25_ := B16_.trans (hb17_.mono (by first | omega | (simp; omega) | simp))
  clear hb17_
  go_wp2_with fail
  refine (sameInts_yes A10_ A18_ c11_ c19_ (takersRow B) (takersRow B) _ _ _ _ _ o23_.ints ho20_.ints (by have e := takersRow_few B (by omega); omega) rfl).mono ?_
  rintro e w26 ⟨rfl, hb26_⟩
  have o27_ := o21_.below hb26_ (by first | omega | (simp; omega) | simp)
  have o28_ := o22_.below hb26_ (by first | omega | (simp; omega) | simp)
  have o29_ := o23_.below hb26_ (by first | omega | (simp; omega) | simp)
  have o30_ := ho20_.below hb26_ (by first | omega | (simp; omega) | simp)
  have z31_ := hb26_.size
  have B32_ := B25_.trans (hb26_.mono (by first | omega | (simp; omega) | simp))
  clear hb26_
  by_cases h33_ : bidB B = true
  · have H33_ := Lib.hid h33_
    clear h33_
    have HBO := Lib.hid H33_.out
    have hbd := bidB_bd HBO.out
    obtain ⟨hB2, hB4', hT4⟩ := hbd
    have HTL := Lib.hid (takersRow_len HBO.out)
    have htl1 : (takersRow B).length ≤ things B := by have e := HTL.out; omega
    have htl2 : things B ≤ (takersRow B).length := by have e := HTL.out; omega
    have HFL : Hid ((fairRow B).length = B.length) := by show _ = _; rw [fairRow_yes HBO.out, fnRow_length]
    have hfl1 : (fairRow B).length ≤ B.length := by have e := HFL.out; omega
    have hfl2 : B.length ≤ (fairRow B).length := by have e := HFL.out; omega
    have HPL : Hid ((paidRow B).length = B.length) := by show _ = _; rw [paidRow, if_pos HBO.out, fnRow_length]
    have hpl1 : (paidRow B).length ≤ B.length := by have e := HPL.out; omega
    have hpl2 : B.length ≤ (paidRow B).length := by have e := HPL.out; omega
    have HEL : Hid ((endRow B).length = B.length) := by show _ = _; rw [endRow, if_pos HBO.out, fnRow_length]
    have hel1 : (endRow B).length ≤ B.length := by have e := HEL.out; omega
    have hel2 : B.length ≤ (endRow B).length := by have e := HEL.out; omega
    go_wp2_with fail
    refine (specBidsOk_any A3_ c4_ B _ _ _ o28_.grid (by first | omega | (simp; omega) | simp) (by omega)).mono ?_
    rintro e w34 ⟨he, hb34_⟩
    rw [H33_.out] at he
    subst he
    have o35_ := o27_.below hb34_ (by first | omega | (simp; omega) | simp)
    have o36_ := o28_.below hb34_ (by first | omega | (simp; omega) | simp)
    have o37_ := o29_.below hb34_ (by first | omega | (simp; omega) | simp)
    have o38_ := o30_.below hb34_ (by first | omega | (simp; omega) | simp)
    have z39_ := hb34_.size
    have B40_ := B32_.trans (hb34_.mono (by first | omega | (simp; omega) | simp))
    clear hb34_
    go_wp2
    go_loopw [5] (fun jj wr => ∃ j : Nat, jj = .int .i64 j ∧ (j ≤ (takersRow B).length) ∧ Below w.heap.size w wr ∧ w34.heap.size ≤ wr.heap.size ∧ Bytes wr (w.heap.size) A0 bs ∧ GridS wr (w.heap.size) (w1.heap.size) A3_ B ∧ Own wr (w1.heap.size) (w9.heap.size) A10_ (takersRow B) ∧ Own wr (w9.heap.size) (w17.heap.size) A18_ (takersRow B)) (fun jj _ => (takersRow B).length - (intOf jj).toNat)
    case atStart => exact ⟨0, rfl, Nat.zero_le _, B40_, (by first | omega | (simp; omega) | simp), o35_, o36_, o37_, o38_⟩
    case round =>
      obtain ⟨j, rfl, hj, k42_, k43_, k44_, k45_, k46_, k47_⟩ := hrel
      obtain ⟨w41, rfl⟩ : ∃ x, x = wr := ⟨_, rfl⟩
      by_cases hlt0 : j < (takersRow B).length
      · go_wp2
        go_loopw [6] (fun kk wr => ∃ k : Nat, kk = .int .i64 k ∧ (k ≤ B.length) ∧ Below w.heap.size w wr ∧ w41.heap.size ≤ wr.heap.size ∧ Bytes wr (w.heap.size) A0 bs ∧ GridS wr (w.heap.size) (w1.heap.size) A3_ B ∧ Own wr (w1.heap.size) (w9.heap.size) A10_ (takersRow B) ∧ Own wr (w9.heap.size) (w17.heap.size) A18_ (takersRow B)) (fun kk _ => B.length - (intOf kk).toNat)
        case atStart => exact ⟨0, rfl, Nat.zero_le _, k42_, (by first | omega | (simp; omega) | simp), k44_, k45_, k46_, k47_⟩
        case round =>
          obtain ⟨k, rfl, hk, k49_, k50_, k51_, k52_, k53_, k54_⟩ := hrel
          obtain ⟨w48, rfl⟩ : ∃ x, x = wr := ⟨_, rfl⟩
          by_cases hlt2 : k < B.length
          · obtain ⟨b55_, f56_, rfl, _, b55_h, -⟩ := k52_ (by omega)
            obtain ⟨b63_, f64_, d58_, c59_, F60_, rm62_⟩ := k52_.at_ k (by omega)
            obtain ⟨y61_, hy61_⟩ : ∃ y_, B.getD k [] = y_ := ⟨_, rfl⟩
            rw [hy61_] at c59_ F60_ rm62_
            have qy61_ := row_th HBO.out (k := k) (by omega) hy61_
            obtain ⟨qy61_a, qy61_b⟩ := qy61_
            have Hy61_ := Lib.hid hy61_
            clear hy61_
            have c59_ : w48.cell? ⟨b55_, f56_ + k, none⟩ = some (.slice (some ⟨b63_, f64_, none⟩) y61_.length d58_) := c59_
            have c59_i : (k : Int) < (B.length : Int) := by omega
            have c59_j : (0 : Int) ≤ (k : Int) := by omega
            have c65_ : w48.cell? ⟨b63_, f64_ + j, none⟩ = some (.int .i64 (y61_.getD j 0)) := F60_.at2 j (by first | omega | (simp; omega) | simp)
            have c65_i : (j : Int) < (y61_.length : Int) := by omega
            have c65_j : (0 : Int) ≤ (j : Int) := by omega
            have v66_g := (show 0 ≤ y61_.getD j 0 ∧ y61_.getD j 0 ≤ 12 from by rw [← Hy61_.out]; exact bid_rg HBO.out _ _)
            obtain ⟨v66_, hv66_⟩ : ∃ v, v = y61_.getD j 0 := ⟨_, rfl⟩
            rw [← hv66_] at c65_ v66_g
            have Hv66_ := Lib.hid hv66_
            clear hv66_
            obtain ⟨v66_g1, v66_g2⟩ := v66_g
            obtain ⟨b67_, f68_, rfl, b67_l, b67_h, -⟩ := k53_.ints (by omega)
            have c69_ : w48.cell? ⟨b67_, f68_ + j, none⟩ = some (.int .i64 ((takersRow B).getD j 0)) := k53_.ints.at2 j (by first | omega | (simp; omega) | simp)
            have c69_i : (j : Int) < ((takersRow B).length : Int) := by omega
            have c69_j : (0 : Int) ≤ (j : Int) := by omega
            have v70_g := takers_rg HBO.out (j := j) (by omega)
            obtain ⟨v70_, hv70_⟩ : ∃ v, v = (takersRow B).getD j 0 := ⟨_, rfl⟩
            rw [← hv70_] at c69_ v70_g
            have Hv70_ := Lib.hid hv70_
            clear hv70_
            obtain ⟨v70_g1, v70_g2⟩ := v70_g
            obtain ⟨x71_, hx71_⟩ : ∃ x : Nat, v70_ = (x : Int) := ⟨(v70_).toNat, by omega⟩
            have Hx71_ := Lib.hid hx71_
            have x71_b : x71_ < B.length := by omega
            obtain ⟨b78_, f79_, d73_, c74_, F75_, rm77_⟩ := k52_.at_ x71_ (by omega)
            obtain ⟨y76_, hy76_⟩ : ∃ y_, B.getD x71_ [] = y_ := ⟨_, rfl⟩
            rw [hy76_] at c74_ F75_ rm77_
            have qy76_ := row_th HBO.out (k := x71_) (by omega) hy76_
            obtain ⟨qy76_a, qy76_b⟩ := qy76_
            have Hy76_ := Lib.hid hy76_
            clear hy76_
            have c74_ : w48.cell? ⟨b55_, f56_ + x71_, none⟩ = some (.slice (some ⟨b78_, f79_, none⟩) y76_.length d73_) := c74_
            have c74_i : (x71_ : Int) < (B.length : Int) := by omega
            have c74_j : (0 : Int) ≤ (x71_ : Int) := by omega
            have c80_ : w48.cell? ⟨b78_, f79_ + j, none⟩ = some (.int .i64 (y76_.getD j 0)) := F75_.at2 j (by first | omega | (simp; omega) | simp)
            have c80_i : (j : Int) < (y76_.length : Int) := by omega
            have c80_j : (0 : Int) ≤ (j : Int) := by omega
            have v81_g := (show 0 ≤ y76_.getD j 0 ∧ y76_.getD j 0 ≤ 12 from by rw [← Hy76_.out]; exact bid_rg HBO.out _ _)
            obtain ⟨v81_, hv81_⟩ : ∃ v, v = y76_.getD j 0 := ⟨_, rfl⟩
            rw [← hv81_] at c80_ v81_g
            have Hv81_ := Lib.hid hv81_
            clear hv81_
            obtain ⟨v81_g1, v81_g2⟩ := v81_g
            have h82_ : ¬ (v66_ > v81_) := fun q => by have e := best_max B j (i := k) (by omega); rw [best_of HBO.out (by omega) (by rw [← Hv70_.out]; exact Hx71_.out)] at e; unfold bid at e; rw [Hy61_.out, Hy76_.out, ← Hv66_.out, ← Hv81_.out] at e; omega
            have h82_d : decide (v66_ > v81_) = false := decide_eq_false h82_
            by_cases h83_ : (k : Int) < v70_
            · have h83_d : decide ((k : Int) < v70_) = true := decide_eq_true h83_
              have h83_x71_ : decide ((k : Int) < (x71_ : Int)) = true := decide_eq_true (by omega)
              have h83_x71_n : decide (k < x71_) = true := decide_eq_true (by omega)
              have h84_ : ¬ (v66_ = v81_) := fun q => by have e := best_first B j (i := k) (by rw [best_of HBO.out (by omega) (by rw [← Hv70_.out]; exact Hx71_.out)]; omega); rw [best_of HBO.out (by omega) (by rw [← Hv70_.out]; exact Hx71_.out)] at e; unfold bid at e; rw [Hy61_.out, Hy76_.out, ← Hv66_.out, ← Hv81_.out] at e; omega
              have h84_b : (v66_ == v81_) = false := by simpa using h84_
              have h84_n : (v66_ != v81_) = true := by simpa using h84_
              go_wp2
              go_quiet (fail)
              obtain ⟨w85, hw85⟩ : ∃ x, x = w48.drewN nq := ⟨_, rfl⟩
              have hb86_ : Below w48.heap.size w48 w85 := by rw [hw85]; exact below_drewN (Below.refl _ _) _
              rw [← hw85]
              clear hw85
              have o88_ := k51_.below hb86_ (by first | omega | (simp; omega) | simp)
              have o89_ := k52_.below hb86_ (by first | omega | (simp; omega) | simp)
              have o90_ := k53_.below hb86_ (by first | omega | (simp; omega) | simp)
              have o91_ := k54_.below hb86_ (by first | omega | (simp; omega) | simp)
              have o92_ := F60_.below hb86_ (by first | omega | (simp; omega) | simp)
              have o93_ := F75_.below hb86_ (by first | omega | (simp; omega) | simp)
              have z94_ := hb86_.size
              have B95_ := k49_.trans (hb86_.mono (by first | omega | (simp; omega) | simp))
              clear hb86_
              go_wp2
              go_roundw
              case rel => exact ⟨k + 1, by go_num, by omega, B95_, (by first | omega | (simp; omega) | simp), o88_, o89_, o90_, o91_⟩
              case measure => simp [intOf] <;> omega
            · have h83_d : decide ((k : Int) < v70_) = false := decide_eq_false h83_
              have h83_x71_ : decide ((k : Int) < (x71_ : Int)) = false := decide_eq_false (by omega)
              have h83_x71_n : decide (k < x71_) = false := decide_eq_false (by omega)
              go_wp2
              go_quiet (fail)
              obtain ⟨w84, hw84⟩ : ∃ x, x = w48.drewN nq := ⟨_, rfl⟩
              have hb85_ : Below w48.heap.size w48 w84 := by rw [hw84]; exact below_drewN (Below.refl _ _) _
              rw [← hw84]
              clear hw84
              have o87_ := k51_.below hb85_ (by first | omega | (simp; omega) | simp)
              have o88_ := k52_.below hb85_ (by first | omega | (simp; omega) | simp)
              have o89_ := k53_.below hb85_ (by first | omega | (simp; omega) | simp)
              have o90_ := k54_.below hb85_ (by first | omega | (simp; omega) | simp)
              have o91_ := F60_.below hb85_ (by first | omega | (simp; omega) | simp)
              have o92_ := F75_.below hb85_ (by first | omega | (simp; omega) | simp)
              have z93_ := hb85_.size
              have B94_ := k49_.trans (hb85_.mono (by first | omega | (simp; omega) | simp))
              clear hb85_
              go_wp2
              go_roundw
              case rel => exact ⟨k + 1, by go_num, by omega, B94_, (by first | omega | (simp; omega) | simp), o87_, o88_, o89_, o90_⟩
              case measure => simp [intOf] <;> omega
          · go_wp2
            go_roundw
            case rel => exact ⟨j + 1, by go_num, by omega, k49_, (by first | omega | (simp; omega) | simp), k51_, k52_, k53_, k54_⟩
            case measure => simp [intOf] <;> omega
      · obtain ⟨b48_, f49_, rfl, _, b48_h, -⟩ := k45_ (by omega)
        obtain ⟨b56_, f57_, d51_, c52_, F53_, rm55_⟩ := k45_.at_ 0 (by omega)
        obtain ⟨y54_, hy54_⟩ : ∃ y_, B.getD 0 [] = y_ := ⟨_, rfl⟩
        rw [hy54_] at c52_ F53_ rm55_
        have qy54_ := row_th HBO.out (k := 0) (by omega) hy54_
        obtain ⟨qy54_a, qy54_b⟩ := qy54_
        have Hy54_ := Lib.hid hy54_
        clear hy54_
        have c52_ : w41.cell? ⟨b48_, f49_, none⟩ = some (.slice (some ⟨b56_, f57_, none⟩) y54_.length d51_) := c52_
        have c52_i : 0 < (B.length : Int) := by omega
        have c52_j : (0 : Int) ≤ 0 := by omega
        have c52_n : 0 < B.length := by omega
        have h58_ : ((takersRow B).length : Int) = (y54_.length : Int) := by omega
        have h58_b : (((takersRow B).length : Int) == (y54_.length : Int)) = true := by simpa using h58_
        have h58_n : (((takersRow B).length : Int) != (y54_.length : Int)) = false := by simpa using h58_
        have h58_le : ((takersRow B).length : Int) ≤ (y54_.length : Int) := by omega
        have h58_ge : (y54_.length : Int) ≤ ((takersRow B).length : Int) := by omega
        have Hh58_ := Lib.hid h58_
        clear h58_
        go_wp2_with fail
        refine (alive_any _).mono ?_
        rintro e w59 ⟨rfl, hb59_⟩
        have o60_ := k44_.below hb59_ (by first | omega | (simp; omega) | simp)
        have o61_ := k45_.below hb59_ (by first | omega | (simp; omega) | simp)
        have o62_ := k46_.below hb59_ (by first | omega | (simp; omega) | simp)
        have o63_ := k47_.below hb59_ (by first | omega | (simp; omega) | simp)
        have o64_ := F53_.below hb59_ (by first | omega | (simp; omega) | simp)
        have z65_ := hb59_.size
        have B66_ := k42_.trans (hb59_.mono (by first | omega | (simp; omega) | simp))
        clear hb59_
        go_wp2
        go_ret
        exact ⟨ret_bool (by first | exact rfl | exact h58_b.trans rfl), B66_⟩
  · have H33_ : Hid (bidB B = false) := by show _ = _; simpa using h33_
    clear h33_
    go_wp2_with fail
    refine (specBidsOk_any A3_ c4_ B _ _ _ o28_.grid (by first | omega | (simp; omega) | simp) (by omega)).mono ?_
    rintro e w34 ⟨he, hb34_⟩
    rw [H33_.out] at he
    subst he
    have o35_ := o27_.below hb34_ (by first | omega | (simp; omega) | simp)
    have o36_ := o28_.below hb34_ (by first | omega | (simp; omega) | simp)
    have o37_ := o29_.below hb34_ (by first | omega | (simp; omega) | simp)
    have o38_ := o30_.below hb34_ (by first | omega | (simp; omega) | simp)
    have z39_ := hb34_.size
    have B40_ := B32_.trans (hb34_.mono (by first | omega | (simp; omega) | simp))
    clear hb34_
    have h41_ : ((takersRow B).length : Int) = 0 := by have q := H33_.out; rw [show takersRow B = [] from by rw [takersRow, if_neg (by rw [q]; simp)]]; rfl
    have h41_b : (((takersRow B).length : Int) == 0) = true := by simpa using h41_
    have h41_n : (((takersRow B).length : Int) != 0) = false := by simpa using h41_
    have h41_le : ((takersRow B).length : Int) ≤ 0 := by omega
    have h41_ge : 0 ≤ ((takersRow B).length : Int) := by omega
    have Hh41_ := Lib.hid h41_
    clear h41_
    go_wp2_with fail
    refine (alive_any _).mono ?_
    rintro e w42 ⟨rfl, hb42_⟩
    have o43_ := o35_.below hb42_ (by first | omega | (simp; omega) | simp)
    have o44_ := o36_.below hb42_ (by first | omega | (simp; omega) | simp)
    have o45_ := o37_.below hb42_ (by first | omega | (simp; omega) | simp)
    have o46_ := o38_.below hb42_ (by first | omega | (simp; omega) | simp)
    have z47_ := hb42_.size
    have B48_ := B40_.trans (hb42_.mono (by first | omega | (simp; omega) | simp))
    clear hb42_
    go_wp2
    go_ret
    exact ⟨ret_bool (by first | exact rfl | exact h41_b.trans rfl), B48_⟩

set_option maxRecDepth 10000 in
set_option maxHeartbeats 400000 in
theorem fnTakersOf_big (A0 : Option Addr) (c0 : Nat) (bs : List Int) (w : World) (hl : ¬ bs.length ≤ 1048576) (hm : bs.length ≤ 9223372036854775807) :
    Calls Try.prog 4 #[.slice A0 bs.length c0] w fun e w' => e = .returned (.bool true) ∧ Below w.heap.size w w' := by
  go_enter Try.func4, Try.ntmps4
  go_wp2
  go_ret
  exact ⟨rfl, Below.refl _ _⟩

theorem fnTakersOf_all (A0 : Option Addr) (c0 : Nat) (bs : List Int) (w : World) (h0 : Bytes w w.heap.size A0 bs) (hm : bs.length ≤ 9223372036854775807) (hc0 : bs.length ≤ c0) :
    Calls Try.prog 4 #[.slice A0 bs.length c0] w fun e w' => e = .returned (.bool true) ∧ Below w.heap.size w w' := by
  by_cases hl : bs.length ≤ 1048576
  · exact fnTakersOf_walk A0 c0 bs w h0 hl hc0
  · exact fnTakersOf_big A0 c0 bs w hl hm

end Go.Proofs.Ytpdlppmkjkbboaa
