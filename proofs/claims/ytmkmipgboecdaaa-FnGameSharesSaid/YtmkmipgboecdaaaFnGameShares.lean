/-
  The law of GameShares returns true for every code, and writes nothing that was there. No condition.
-/
import Derived.Test.YtmkmipgboecdaaaGA
import Derived.Test.YtmkmipgboecdaaaDraw7
import Derived.Test.YtmkmipgboecdaaaArr7
import Derived.Test.YtmkmipgboecdaaaSpec7C
import Derived.Test.YtmkmipgboecdaaaGame7I
import Derived.Test.YtmkmipgboecdaaaGB
import Derived.Test.YtmkmipgboecdaaaGC
import Derived.Test.YtmkmipgboecdaaaFx
import Derived.Deep.RegionHeld3
namespace Go.Proofs.Ytmkmipgboecdaaa
open Go.RowKit

set_option maxRecDepth 10000 in
set_option maxHeartbeats 2000000 in
theorem fnGameShares_walk (A0 : Option Addr) (c0 : Nat) (bs : List Int) (w : World) (h0 : Bytes w w.heap.size A0 bs) (hl : bs.length ≤ 1048576) (hc0 : bs.length ≤ c0) :
    Calls Try.prog 6 #[.slice A0 bs.length c0] w fun e w' => e = .returned (.bool true) ∧ Below w.heap.size w w' := by
  have hlm : bs.length ≤ 9223372036854775807 := by omega
  go_enter Try.func6, Try.ntmps6
  have Htrue : Hid True := trivial
  have hc0u := hc0
  have h0u := h0
  have hlmu := hlm
  go_wp2_with fail
  refine (drawGameShares_any A0 c0 bs _ (h0.more (by first | omega | (simp; omega) | simp)) hlm hc0).mono ?_
  rintro e w1 ⟨E, A3_, c4_, xs, hx5, rfl, ho5_, hb2_⟩
  have o6_ := h0.below hb2_ (by first | omega | (simp; omega) | simp)
  have z7_ := hb2_.size
  have B8_ := (Below.refl w.heap.size w).trans (hb2_.mono (by first | omega | (simp; omega) | simp))
  clear hb2_
  have hlbsxs : xs.length ≤ 1152921504606846976 := by omega
  have o9_ := o6_.below ((Below.refl _ _).alloc (Nat.le_refl _) (.cells #[.int .i64 E, .slice A3_ xs.length c4_] 25)) (by first | omega | (simp; omega) | simp)
  have o10_ := ho5_.alloc (by first | omega | (simp; omega) | simp) (.cells #[.int .i64 E, .slice A3_ xs.length c4_] 25)
  have B11_ := B8_.alloc (by first | omega | (simp; omega) | simp) (.cells #[.int .i64 E, .slice A3_ xs.length c4_] 25)
  have a12_ : (w1.alloc (.cells #[.int .i64 E, .slice A3_ xs.length c4_] 25)).cell? ⟨w1.heap.size, 0, none⟩ = some (.int .i64 E) := by simp [go_sem]
  have a13_ : (w1.alloc (.cells #[.int .i64 E, .slice A3_ xs.length c4_] 25)).cell? ⟨w1.heap.size, 1, none⟩ = some (.slice A3_ xs.length c4_) := by simp [go_sem]
  go_wp2_with fail
  refine (implGameShares_any E A3_ c4_ xs _ _ _ o10_.ints (by first | omega | (simp; omega) | simp) (by omega)).mono ?_
  rintro e w14 ⟨A15_, c16_, rfl, ho17_, hb14_⟩
  have ho17_ : Own w14 (w1.heap.size + 1) w14.heap.size A15_ (arrRow E xs) := ho17_.more (by simp) (Nat.le_refl _)
  have o18_ := o9_.below hb14_ (by first | omega | (simp; omega) | simp)
  have o19_ := o10_.below hb14_ (by first | omega | (simp; omega) | simp)
  have o20_ := (hb14_.cell (p := ⟨w1.heap.size, 0, none⟩) (by first | omega | (simp; omega) | simp)).trans a12_
  have o21_ := (hb14_.cell (p := ⟨w1.heap.size, 1, none⟩) (by first | omega | (simp; omega) | simp)).trans a13_
  have z22_ := hb14_.size
  try simp at z22_
  have B23_ := B11_.trans (hb14_.mono (by first | omega | (simp; omega) | simp))
  clear hb14_
  go_wp2_with fail
  refine (specGameShares_any E A3_ c4_ xs _ _ _ o19_.ints (by first | omega | (simp; omega) | simp) (by omega)).mono ?_
  rintro e w24 ⟨A25_, c26_, rfl, ho27_, hb24_⟩
  have o28_ := o18_.below hb24_ (by first | omega | (simp; omega) | simp)
  have o29_ := o19_.below hb24_ (by first | omega | (simp; omega) | simp)
  have o30_ := ho17_.below hb24_ (by first | omega | (simp; omega) | simp)
  have o31_ := (hb24_.cell (p := ⟨w1.heap.size, 0, none⟩) (by first | omega | (simp; omega) | simp)).trans o20_
  have o32_ := (hb24_.cell (p := ⟨w1.heap.size, 1, none⟩) (by first | omega | (simp; omega) | simp)).trans o21_
  have z33_ := hb24_.size
  have B34_ := B23_.trans (hb24_.mono (by first | omega | (simp; omega) | simp))
  clear hb24_
  go_wp2_with fail
  refine (sameInts_yes A15_ A25_ c16_ c26_ (arrRow E xs) (arrRow E xs) _ _ _ _ _ o30_.ints ho27_.ints (by have e := arrRow_len E xs; omega) rfl).mono ?_
  rintro e w35 ⟨rfl, hb35_⟩
  have o36_ := o28_.below hb35_ (by first | omega | (simp; omega) | simp)
  have o37_ := o29_.below hb35_ (by first | omega | (simp; omega) | simp)
  have o38_ := o30_.below hb35_ (by first | omega | (simp; omega) | simp)
  have o39_ := ho27_.below hb35_ (by first | omega | (simp; omega) | simp)
  have o40_ := (hb35_.cell (p := ⟨w1.heap.size, 0, none⟩) (by first | omega | (simp; omega) | simp)).trans o31_
  have o41_ := (hb35_.cell (p := ⟨w1.heap.size, 1, none⟩) (by first | omega | (simp; omega) | simp)).trans o32_
  have z42_ := hb35_.size
  have B43_ := B34_.trans (hb35_.mono (by first | omega | (simp; omega) | simp))
  clear hb35_
  by_cases h44_ : ((arrRow E xs).length : Int) = 0
  · have h44_b : (((arrRow E xs).length : Int) == 0) = true := by simpa using h44_
    have h44_n : (((arrRow E xs).length : Int) != 0) = false := by simpa using h44_
    have h44_le : ((arrRow E xs).length : Int) ≤ 0 := by omega
    have h44_ge : 0 ≤ ((arrRow E xs).length : Int) := by omega
    have Hh44_ := Lib.hid h44_
    clear h44_
    have H45_ : Hid (caseOkB E xs = false) := arrRow_no (by omega)
    go_wp2_with fail
    refine (implCaseOk_any E A3_ c4_ xs _ _ _ o37_.ints (by first | omega | (simp; omega) | simp) (by omega)).mono ?_
    rintro e w46 ⟨he, hb46_⟩
    rw [H45_.out] at he
    subst he
    have o47_ := o36_.below hb46_ (by first | omega | (simp; omega) | simp)
    have o48_ := o37_.below hb46_ (by first | omega | (simp; omega) | simp)
    have o49_ := o38_.below hb46_ (by first | omega | (simp; omega) | simp)
    have o50_ := o39_.below hb46_ (by first | omega | (simp; omega) | simp)
    have o51_ := (hb46_.cell (p := ⟨w1.heap.size, 0, none⟩) (by first | omega | (simp; omega) | simp)).trans o40_
    have o52_ := (hb46_.cell (p := ⟨w1.heap.size, 1, none⟩) (by first | omega | (simp; omega) | simp)).trans o41_
    have z53_ := hb46_.size
    have B54_ := B43_.trans (hb46_.mono (by first | omega | (simp; omega) | simp))
    clear hb46_
    go_wp2_with fail
    refine (alive_any _).mono ?_
    rintro e w55 ⟨rfl, hb55_⟩
    have o56_ := o47_.below hb55_ (by first | omega | (simp; omega) | simp)
    have o57_ := o48_.below hb55_ (by first | omega | (simp; omega) | simp)
    have o58_ := o49_.below hb55_ (by first | omega | (simp; omega) | simp)
    have o59_ := o50_.below hb55_ (by first | omega | (simp; omega) | simp)
    have o60_ := (hb55_.cell (p := ⟨w1.heap.size, 0, none⟩) (by first | omega | (simp; omega) | simp)).trans o51_
    have o61_ := (hb55_.cell (p := ⟨w1.heap.size, 1, none⟩) (by first | omega | (simp; omega) | simp)).trans o52_
    have z62_ := hb55_.size
    have B63_ := B54_.trans (hb55_.mono (by first | omega | (simp; omega) | simp))
    clear hb55_
    go_wp2
    go_ret
    exact ⟨ret_bool (by first | exact rfl | exact h44_b.trans rfl), B63_⟩
  · have h44_b : (((arrRow E xs).length : Int) == 0) = false := by simpa using h44_
    have h44_n : (((arrRow E xs).length : Int) != 0) = true := by simpa using h44_
    have HOK : Hid (caseOkB E xs = true) := arrRow_some (E := E) (xs := xs) (by omega)
    have hbd := caseOk_bd HOK.out
    have HRW : Hid (arrRow E xs = arr E xs) := arrRow_yes HOK.out
    have HAW : Hid (awardsB E xs (arrRow E xs) = true) := by show _ = _; rw [HRW.out]; exact (awardsB_iff _ _ _).2 (arr_aw HOK.out)
    have HLO : Hid ((arrRow E xs).length = xs.length) := by show _ = _; rw [HRW.out, arr_length]
    have hlo1 : (arrRow E xs).length ≤ xs.length := by have e := HLO.out; omega
    have hlo2 : xs.length ≤ (arrRow E xs).length := by have e := HLO.out; omega
    have HLL : Hid ((lossesRow xs (arrRow E xs)).length = xs.length) := by show _ = _; rw [lossesRow_length HLO.out, HLO.out]
    have HSMR : Hid (Small (arrRow E xs)) := arr_small HOK.out
    go_wp2
    go_loopw [5] (fun kk wr => ∃ k : Nat, kk = .int .i64 k ∧ (k ≤ (arrRow E xs).length) ∧ Below w.heap.size w wr ∧ w35.heap.size ≤ wr.heap.size ∧ Bytes wr (w.heap.size) A0 bs ∧ Own wr (w.heap.size) (w1.heap.size) A3_ xs ∧ Own wr (w1.heap.size + 1) (w14.heap.size) A15_ (arrRow E xs) ∧ Own wr (w14.heap.size) (w24.heap.size) A25_ (arrRow E xs) ∧ wr.cell? ⟨w1.heap.size, 0, none⟩ = some (.int .i64 E) ∧ wr.cell? ⟨w1.heap.size, 1, none⟩ = some (.slice A3_ xs.length c4_)) (fun kk _ => (arrRow E xs).length - (intOf kk).toNat)
    case atStart => exact ⟨0, rfl, Nat.zero_le _, B43_, (by first | omega | (simp; omega) | simp), o36_, o37_, o38_, o39_, o40_, o41_⟩
    case round =>
      obtain ⟨k, rfl, hk, k46_, k47_, k48_, k49_, k50_, k51_, k52_, k53_⟩ := hrel
      obtain ⟨w45, rfl⟩ : ∃ x, x = wr := ⟨_, rfl⟩
      by_cases hlt0 : k < (arrRow E xs).length
      · go_wp2
        go_loopw [6] (fun jj wr => ∃ j : Nat, jj = .int .i64 j ∧ (j ≤ k) ∧ Below w.heap.size w wr ∧ w45.heap.size ≤ wr.heap.size ∧ Bytes wr (w.heap.size) A0 bs ∧ Own wr (w.heap.size) (w1.heap.size) A3_ xs ∧ Own wr (w1.heap.size + 1) (w14.heap.size) A15_ (arrRow E xs) ∧ Own wr (w14.heap.size) (w24.heap.size) A25_ (arrRow E xs) ∧ wr.cell? ⟨w1.heap.size, 0, none⟩ = some (.int .i64 E) ∧ wr.cell? ⟨w1.heap.size, 1, none⟩ = some (.slice A3_ xs.length c4_)) (fun jj _ => k - (intOf jj).toNat)
        case atStart => exact ⟨0, rfl, Nat.zero_le _, k46_, (by first | omega | (simp; omega) | simp), k48_, k49_, k50_, k51_, k52_, k53_⟩
        case round =>
          obtain ⟨j, rfl, hj, k55_, k56_, k57_, k58_, k59_, k60_, k61_, k62_⟩ := hrel
          obtain ⟨w54, rfl⟩ : ∃ x, x = wr := ⟨_, rfl⟩
          by_cases hlt2 : j < k
          · obtain ⟨b63_, f64_, rfl, b63_l, b63_h, -⟩ := k58_.ints (by omega)
            have c65_ : w54.cell? ⟨b63_, f64_ + k, none⟩ = some (.int .i64 (xs.getD k 0)) := k58_.ints.at2 k (by first | omega | (simp; omega) | simp)
            have c65_i : (k : Int) < (xs.length : Int) := by omega
            have c65_j : (0 : Int) ≤ (k : Int) := by omega
            obtain ⟨v66_, hv66_⟩ : ∃ v, v = xs.getD k 0 := ⟨_, rfl⟩
            rw [← hv66_] at c65_
            have Hv66_ := Lib.hid hv66_
            clear hv66_
            have c67_ : w54.cell? ⟨b63_, f64_ + j, none⟩ = some (.int .i64 (xs.getD j 0)) := k58_.ints.at2 j (by first | omega | (simp; omega) | simp)
            have c67_i : (j : Int) < (xs.length : Int) := by omega
            have c67_j : (0 : Int) ≤ (j : Int) := by omega
            obtain ⟨v68_, hv68_⟩ : ∃ v, v = xs.getD j 0 := ⟨_, rfl⟩
            rw [← hv68_] at c67_
            have Hv68_ := Lib.hid hv68_
            clear hv68_
            by_cases h69_ : v66_ = v68_
            · have h69_b : (v66_ == v68_) = true := by simpa using h69_
              have h69_n : (v66_ != v68_) = false := by simpa using h69_
              have h69_le : v66_ ≤ v68_ := by omega
              have h69_ge : v68_ ≤ v66_ := by omega
              have Hh69_ := Lib.hid h69_
              clear h69_
              obtain ⟨b70_, f71_, rfl, b70_l, b70_h, -⟩ := k59_.ints (by omega)
              have c72_ : w54.cell? ⟨b70_, f71_ + k, none⟩ = some (.int .i64 ((arrRow E xs).getD k 0)) := k59_.ints.at2 k (by first | omega | (simp; omega) | simp)
              have c72_i : (k : Int) < ((arrRow E xs).length : Int) := by omega
              have c72_j : (0 : Int) ≤ (k : Int) := by omega
              obtain ⟨v73_, hv73_⟩ : ∃ v, v = (arrRow E xs).getD k 0 := ⟨_, rfl⟩
              rw [← hv73_] at c72_
              have Hv73_ := Lib.hid hv73_
              clear hv73_
              have c74_ : w54.cell? ⟨b70_, f71_ + j, none⟩ = some (.int .i64 ((arrRow E xs).getD j 0)) := k59_.ints.at2 j (by first | omega | (simp; omega) | simp)
              have c74_i : (j : Int) < ((arrRow E xs).length : Int) := by omega
              have c74_j : (0 : Int) ≤ (j : Int) := by omega
              obtain ⟨v75_, hv75_⟩ : ∃ v, v = (arrRow E xs).getD j 0 := ⟨_, rfl⟩
              rw [← hv75_] at c74_
              have Hv75_ := Lib.hid hv75_
              clear hv75_
              have h76_ : v73_ = v75_ := by rw [Hv73_.out, Hv75_.out, HRW.out]; exact arr_equal HOK.out (by omega) (by omega) (by rw [← Hv66_.out, ← Hv68_.out]; exact Hh69_.out)
              have h76_b : (v73_ == v75_) = true := by simpa using h76_
              have h76_n : (v73_ != v75_) = false := by simpa using h76_
              have h76_le : v73_ ≤ v75_ := by omega
              have h76_ge : v75_ ≤ v73_ := by omega
              have Hh76_ := Lib.hid h76_
              clear h76_
              go_wp2
              go_quiet (fail)
              obtain ⟨w77, hw77⟩ : ∃ x, x = w54.drewN nq := ⟨_, rfl⟩
              have hb78_ : Below w54.heap.size w54 w77 := by rw [hw77]; exact below_drewN (Below.refl _ _) _
              rw [← hw77]
              clear hw77
              have o80_ := k57_.below hb78_ (by first | omega | (simp; omega) | simp)
              have o81_ := k58_.below hb78_ (by first | omega | (simp; omega) | simp)
              have o82_ := k59_.below hb78_ (by first | omega | (simp; omega) | simp)
              have o83_ := k60_.below hb78_ (by first | omega | (simp; omega) | simp)
              have o84_ := (hb78_.cell (p := ⟨w1.heap.size, 0, none⟩) (by first | omega | (simp; omega) | simp)).trans k61_
              have o85_ := (hb78_.cell (p := ⟨w1.heap.size, 1, none⟩) (by first | omega | (simp; omega) | simp)).trans k62_
              have z86_ := hb78_.size
              have B87_ := k55_.trans (hb78_.mono (by first | omega | (simp; omega) | simp))
              clear hb78_
              go_wp2
              go_roundw
              case rel => exact ⟨j + 1, by go_num, by omega, B87_, (by first | omega | (simp; omega) | simp), o80_, o81_, o82_, o83_, o84_, o85_⟩
              case measure => simp [intOf] <;> omega
            · have h69_b : (v66_ == v68_) = false := by simpa using h69_
              have h69_n : (v66_ != v68_) = true := by simpa using h69_
              go_wp2
              go_quiet (fail)
              obtain ⟨w70, hw70⟩ : ∃ x, x = w54.drewN nq := ⟨_, rfl⟩
              have hb71_ : Below w54.heap.size w54 w70 := by rw [hw70]; exact below_drewN (Below.refl _ _) _
              rw [← hw70]
              clear hw70
              have o73_ := k57_.below hb71_ (by first | omega | (simp; omega) | simp)
              have o74_ := k58_.below hb71_ (by first | omega | (simp; omega) | simp)
              have o75_ := k59_.below hb71_ (by first | omega | (simp; omega) | simp)
              have o76_ := k60_.below hb71_ (by first | omega | (simp; omega) | simp)
              have o77_ := (hb71_.cell (p := ⟨w1.heap.size, 0, none⟩) (by first | omega | (simp; omega) | simp)).trans k61_
              have o78_ := (hb71_.cell (p := ⟨w1.heap.size, 1, none⟩) (by first | omega | (simp; omega) | simp)).trans k62_
              have z79_ := hb71_.size
              have B80_ := k55_.trans (hb71_.mono (by first | omega | (simp; omega) | simp))
              clear hb71_
              go_wp2
              go_roundw
              case rel => exact ⟨j + 1, by go_num, by omega, B80_, (by first | omega | (simp; omega) | simp), o73_, o74_, o75_, o76_, o77_, o78_⟩
              case measure => simp [intOf] <;> omega
          · obtain ⟨b63_, f64_, rfl, b63_l, b63_h, -⟩ := k58_.ints (by omega)
            have c65_ : w54.cell? ⟨b63_, f64_ + k, none⟩ = some (.int .i64 (xs.getD k 0)) := k58_.ints.at2 k (by first | omega | (simp; omega) | simp)
            have c65_i : (k : Int) < (xs.length : Int) := by omega
            have c65_j : (0 : Int) ≤ (k : Int) := by omega
            obtain ⟨v66_, hv66_⟩ : ∃ v, v = xs.getD k 0 := ⟨_, rfl⟩
            rw [← hv66_] at c65_
            have Hv66_ := Lib.hid hv66_
            clear hv66_
            by_cases h67_ : v66_ = 0
            · have h67_b : (v66_ == 0) = true := by simpa using h67_
              have h67_n : (v66_ != 0) = false := by simpa using h67_
              have h67_le : v66_ ≤ 0 := by omega
              have h67_ge : 0 ≤ v66_ := by omega
              have Hh67_ := Lib.hid h67_
              clear h67_
              obtain ⟨b68_, f69_, rfl, b68_l, b68_h, -⟩ := k59_.ints (by omega)
              have c70_ : w54.cell? ⟨b68_, f69_ + k, none⟩ = some (.int .i64 ((arrRow E xs).getD k 0)) := k59_.ints.at2 k (by first | omega | (simp; omega) | simp)
              have c70_i : (k : Int) < ((arrRow E xs).length : Int) := by omega
              have c70_j : (0 : Int) ≤ (k : Int) := by omega
              obtain ⟨v71_, hv71_⟩ : ∃ v, v = (arrRow E xs).getD k 0 := ⟨_, rfl⟩
              rw [← hv71_] at c70_
              have Hv71_ := Lib.hid hv71_
              clear hv71_
              have h72_ : v71_ = 0 := by rw [Hv71_.out, HRW.out]; exact arr_nothing (by omega) (by rw [← Hv66_.out]; exact Hh67_.out)
              have h72_b : (v71_ == 0) = true := by simpa using h72_
              have h72_n : (v71_ != 0) = false := by simpa using h72_
              have h72_le : v71_ ≤ 0 := by omega
              have h72_ge : 0 ≤ v71_ := by omega
              have Hh72_ := Lib.hid h72_
              clear h72_
              go_wp2
              go_roundw
              case rel => exact ⟨k + 1, by go_num, by omega, k55_, (by first | omega | (simp; omega) | simp), k57_, k58_, k59_, k60_, k61_, k62_⟩
              case measure => simp [intOf] <;> omega
            · have h67_b : (v66_ == 0) = false := by simpa using h67_
              have h67_n : (v66_ != 0) = true := by simpa using h67_
              go_wp2
              go_roundw
              case rel => exact ⟨k + 1, by go_num, by omega, k55_, (by first | omega | (simp; omega) | simp), k57_, k58_, k59_, k60_, k61_, k62_⟩
              case measure => simp [intOf] <;> omega
      · obtain rfl : k = (arrRow E xs).length := by omega
        obtain ⟨v54_, hv54_⟩ : ∃ v, (arrRow E xs).sum = v := ⟨_, rfl⟩
        have Hv54_ := Lib.hid hv54_
        clear hv54_
        have h55_ : v54_ = (48 * E) := by rw [← Hv54_.out]; exact arr_sum_is HOK.out
        have h55_b : (v54_ == (48 * E)) = true := by simpa using h55_
        have h55_n : (v54_ != (48 * E)) = false := by simpa using h55_
        have h55_le : v54_ ≤ (48 * E) := by omega
        have h55_ge : (48 * E) ≤ v54_ := by omega
        have Hh55_ := Lib.hid h55_
        clear h55_
        have hw56_ : IntKind.i64.wrap (48 * E) = (48 * E) := IntWalk.i64_in _ (by omega)
        go_wp2
        go_quiet ((go_at_call 34; exact quiet_left1 (same_is (lsumOf_any A15_ c16_ (arrRow E xs) _ _ _ k50_.ints HSMR.out) (congrArg (Value.int .i64) Hv54_.out))))
        obtain ⟨w57, hw57⟩ : ∃ x, x = w45.drewN nq := ⟨_, rfl⟩
        have hb58_ : Below w45.heap.size w45 w57 := by rw [hw57]; exact below_drewN (Below.refl _ _) _
        rw [← hw57]
        clear hw57
        clear hw56_
        have o60_ := k48_.below hb58_ (by first | omega | (simp; omega) | simp)
        have o61_ := k49_.below hb58_ (by first | omega | (simp; omega) | simp)
        have o62_ := k50_.below hb58_ (by first | omega | (simp; omega) | simp)
        have o63_ := k51_.below hb58_ (by first | omega | (simp; omega) | simp)
        have o64_ := (hb58_.cell (p := ⟨w1.heap.size, 0, none⟩) (by first | omega | (simp; omega) | simp)).trans k52_
        have o65_ := (hb58_.cell (p := ⟨w1.heap.size, 1, none⟩) (by first | omega | (simp; omega) | simp)).trans k53_
        have z66_ := hb58_.size
        have B67_ := k46_.trans (hb58_.mono (by first | omega | (simp; omega) | simp))
        clear hb58_
        go_wp2
        go_ret
        exact ⟨ret_bool (by first | exact rfl | exact h55_b.trans rfl), B67_⟩

set_option maxRecDepth 10000 in
set_option maxHeartbeats 400000 in
theorem fnGameShares_big (A0 : Option Addr) (c0 : Nat) (bs : List Int) (w : World) (hl : ¬ bs.length ≤ 1048576) (hm : bs.length ≤ 9223372036854775807) :
    Calls Try.prog 6 #[.slice A0 bs.length c0] w fun e w' => e = .returned (.bool true) ∧ Below w.heap.size w w' := by
  go_enter Try.func6, Try.ntmps6
  go_wp2
  go_ret
  exact ⟨rfl, Below.refl _ _⟩

theorem fnGameShares_all (A0 : Option Addr) (c0 : Nat) (bs : List Int) (w : World) (h0 : Bytes w w.heap.size A0 bs) (hm : bs.length ≤ 9223372036854775807) (hc0 : bs.length ≤ c0) :
    Calls Try.prog 6 #[.slice A0 bs.length c0] w fun e w' => e = .returned (.bool true) ∧ Below w.heap.size w w' := by
  by_cases hl : bs.length ≤ 1048576
  · exact fnGameShares_walk A0 c0 bs w h0 hl hc0
  · exact fnGameShares_big A0 c0 bs w hl hm

end Go.Proofs.Ytmkmipgboecdaaa
