/-
  The law of PaidRow returns true for every code, and writes nothing that was there. No condition.
-/
import Derived.Test.YtpdlppmkjkbboaaGA
import Derived.Test.YtpdlppmkjkbboaaDraw9
import Derived.Test.YtpdlppmkjkbboaaGridB
import Derived.Test.YtpdlppmkjkbboaaGame9I
import Derived.Test.YtpdlppmkjkbboaaGC
import Derived.Test.YtpdlppmkjkbboaaFx
import Derived.Deep.RegionHeld3
namespace Go.Proofs.Ytpdlppmkjkbboaa
open Go.RowKit

set_option maxRecDepth 10000 in
set_option maxHeartbeats 2000000 in
theorem fnPaidRow_walk (A0 : Option Addr) (c0 : Nat) (bs : List Int) (w : World) (h0 : Bytes w w.heap.size A0 bs) (hl : bs.length ≤ 1048576) (hc0 : bs.length ≤ c0) :
    Calls Try.prog 7 #[.slice A0 bs.length c0] w fun e w' => e = .returned (.bool true) ∧ Below w.heap.size w w' := by
  have hlm : bs.length ≤ 9223372036854775807 := by omega
  go_enter Try.func7, Try.ntmps7
  have Htrue : Hid True := trivial
  have hc0u := hc0
  have h0u := h0
  have hlmu := hlm
  go_wp2_with fail
  refine (drawPaidRow_any A0 c0 bs _ (h0.more (by first | omega | (simp; omega) | simp)) hlm hc0).mono ?_
  rintro e w1 ⟨A3_, c4_, B, hB4, hB6, rfl, Gd5_, hb2_⟩
  have o6_ := h0.below hb2_ (by first | omega | (simp; omega) | simp)
  have z7_ := hb2_.size
  have B8_ := (Below.refl w.heap.size w).trans (hb2_.mono (by first | omega | (simp; omega) | simp))
  clear hb2_
  have HB6 := Lib.hid hB6
  clear hB6
  go_wp2_with fail
  refine (implPaidRow_any A3_ c4_ B _ _ _ Gd5_.grid (by first | omega | (simp; omega) | simp) (by omega)).mono ?_
  rintro e w9 ⟨A10_, c11_, rfl, ho12_, hb9_⟩
  have o13_ := o6_.below hb9_ (by first | omega | (simp; omega) | simp)
  have o14_ := Gd5_.below hb9_ (by first | omega | (simp; omega) | simp)
  have z15_ := hb9_.size
  have B16_ := B8_.trans (hb9_.mono (by first | omega | (simp; omega) | simp))
  clear hb9_
  go_wp2_with fail
  refine (specPaidRow_any A3_ c4_ B _ _ _ o14_.grid (by first | omega | (simp; omega) | simp) (by omega)).mono ?_
  rintro e w17 ⟨A18_, c19_, rfl, ho20_, hb17_⟩
  have o21_ := o13_.below hb17_ (by first | omega | (simp; omega) | simp)
  have o22_ := o14_.below hb17_ (by first | omega | (simp; omega) | simp)
  have o23_ := ho12_.below hb17_ (by first | omega | (simp; omega) | simp)
  have z24_ := hb17_.size
  have B25_ := B16_.trans (hb17_.mono (by first | omega | (simp; omega) | simp))
  clear hb17_
  go_wp2_with fail
  refine (sameInts_yes A10_ A18_ c11_ c19_ (paidRow B) (paidRow B) _ _ _ _ _ o23_.ints ho20_.ints (by have e := paidRow_few B (by omega); omega) rfl).mono ?_
  rintro e w26 ⟨rfl, hb26_⟩
  have o27_ := o21_.below hb26_ (by first | omega | (simp; omega) | simp)
  have o28_ := o22_.below hb26_ (by first | omega | (simp; omega) | simp)
  have o29_ := o23_.below hb26_ (by first | omega | (simp; omega) | simp)
  have o30_ := ho20_.below hb26_ (by first | omega | (simp; omega) | simp)
  have z31_ := hb26_.size
  have B32_ := B25_.trans (hb26_.mono (by first | omega | (simp; omega) | simp))
  clear hb26_
  by_cases h33_ : ((paidRow B).length : Int) = 0
  · have h33_b : (((paidRow B).length : Int) == 0) = true := by simpa using h33_
    have h33_n : (((paidRow B).length : Int) != 0) = false := by simpa using h33_
    have h33_le : ((paidRow B).length : Int) ≤ 0 := by omega
    have h33_ge : 0 ≤ ((paidRow B).length : Int) := by omega
    have Hh33_ := Lib.hid h33_
    clear h33_
    have H34_ : Hid (bidB B = false) := by rw [Bool.eq_false_iff]; intro z; have e := Hh33_.out; rw [paidRow, if_pos z, fnRow_length] at e; have e2 := bidB_bd z; omega
    go_wp2_with fail
    refine (implBidsOk_any A3_ c4_ B _ _ _ o28_.grid (by first | omega | (simp; omega) | simp) (by omega)).mono ?_
    rintro e w35 ⟨he, hb35_⟩
    rw [H34_.out] at he
    subst he
    have o36_ := o27_.below hb35_ (by first | omega | (simp; omega) | simp)
    have o37_ := o28_.below hb35_ (by first | omega | (simp; omega) | simp)
    have o38_ := o29_.below hb35_ (by first | omega | (simp; omega) | simp)
    have o39_ := o30_.below hb35_ (by first | omega | (simp; omega) | simp)
    have z40_ := hb35_.size
    have B41_ := B32_.trans (hb35_.mono (by first | omega | (simp; omega) | simp))
    clear hb35_
    go_wp2_with fail
    refine (alive_any _).mono ?_
    rintro e w42 ⟨rfl, hb42_⟩
    have o43_ := o36_.below hb42_ (by first | omega | (simp; omega) | simp)
    have o44_ := o37_.below hb42_ (by first | omega | (simp; omega) | simp)
    have o45_ := o38_.below hb42_ (by first | omega | (simp; omega) | simp)
    have o46_ := o39_.below hb42_ (by first | omega | (simp; omega) | simp)
    have z47_ := hb42_.size
    have B48_ := B41_.trans (hb42_.mono (by first | omega | (simp; omega) | simp))
    clear hb42_
    go_wp2
    go_ret
    exact ⟨ret_bool (by first | exact rfl | exact h33_b.trans rfl), B48_⟩
  · have h33_b : (((paidRow B).length : Int) == 0) = false := by simpa using h33_
    have h33_n : (((paidRow B).length : Int) != 0) = true := by simpa using h33_
    have HBQ : Hid (bidB B = true) := by show _ = _; cases z : bidB B with | true => rfl | false => exact absurd (by rw [paidRow, if_neg (by rw [z]; simp)]; rfl) h33_
    have HBO := Lib.hid HBQ.out
    have hbd := bidB_bd HBO.out
    obtain ⟨hB2, hB4', hT4⟩ := hbd
    have HTL := Lib.hid (takersRow_len HBO.out)
    have htl1 : (takersRow B).length ≤ things B := by have e := HTL.out; omega
    have htl2 : things B ≤ (takersRow B).length := by have e := HTL.out; omega
    have HFL : Hid ((fairRow B).length = B.length) := by show _ = _; rw [fairRow_yes HBO.out, fnRow_length]
    have hfl1 : (fairRow B).length ≤ B.length := by have e := HFL.out; omega
    have hfl2 : B.length ≤ (fairRow B).length := by have e := HFL.out; omega
    have HPL : Hid ((paidRow B).length = B.length) := by show _ = _; rw [paidRow, if_pos HBO.out, fnRow_length]
    have hpl1 : (paidRow B).length ≤ B.length := by have e := HPL.out; omega
    have hpl2 : B.length ≤ (paidRow B).length := by have e := HPL.out; omega
    have HEL : Hid ((endRow B).length = B.length) := by show _ = _; rw [endRow, if_pos HBO.out, fnRow_length]
    have hel1 : (endRow B).length ≤ B.length := by have e := HEL.out; omega
    have hel2 : B.length ≤ (endRow B).length := by have e := HEL.out; omega
    go_wp2_with fail
    refine (implTakersOf_any A3_ c4_ B _ _ _ o28_.grid (by first | omega | (simp; omega) | simp) (by omega)).mono ?_
    rintro e w34 ⟨A35_, c36_, rfl, ho37_, hb34_⟩
    have o38_ := o27_.below hb34_ (by first | omega | (simp; omega) | simp)
    have o39_ := o28_.below hb34_ (by first | omega | (simp; omega) | simp)
    have o40_ := o29_.below hb34_ (by first | omega | (simp; omega) | simp)
    have o41_ := o30_.below hb34_ (by first | omega | (simp; omega) | simp)
    have z42_ := hb34_.size
    have B43_ := B32_.trans (hb34_.mono (by first | omega | (simp; omega) | simp))
    clear hb34_
    go_wp2_with fail
    refine (implFairRow_any A3_ c4_ B _ _ _ o39_.grid (by first | omega | (simp; omega) | simp) (by omega)).mono ?_
    rintro e w44 ⟨A45_, c46_, rfl, ho47_, hb44_⟩
    have o48_ := o38_.below hb44_ (by first | omega | (simp; omega) | simp)
    have o49_ := o39_.below hb44_ (by first | omega | (simp; omega) | simp)
    have o50_ := o40_.below hb44_ (by first | omega | (simp; omega) | simp)
    have o51_ := o41_.below hb44_ (by first | omega | (simp; omega) | simp)
    have o52_ := ho37_.below hb44_ (by first | omega | (simp; omega) | simp)
    have z53_ := hb44_.size
    have B54_ := B43_.trans (hb44_.mono (by first | omega | (simp; omega) | simp))
    clear hb44_
    go_wp2_with fail
    refine (implSurplusOf_any A3_ c4_ B _ _ _ o49_.grid (by first | omega | (simp; omega) | simp) (by omega)).mono ?_
    rintro e w55 ⟨he, hb55_⟩
    obtain ⟨v56_, hv56_⟩ : ∃ v, surplusV B = v := ⟨_, rfl⟩
    rw [hv56_] at he
    subst he
    have v56_g := surplusV_rg B
    rw [hv56_] at v56_g
    obtain ⟨v56_g1, v56_g2⟩ := v56_g
    have Hv56_ := Lib.hid hv56_
    clear hv56_
    have o57_ := o48_.below hb55_ (by first | omega | (simp; omega) | simp)
    have o58_ := o49_.below hb55_ (by first | omega | (simp; omega) | simp)
    have o59_ := o50_.below hb55_ (by first | omega | (simp; omega) | simp)
    have o60_ := o51_.below hb55_ (by first | omega | (simp; omega) | simp)
    have o61_ := o52_.below hb55_ (by first | omega | (simp; omega) | simp)
    have o62_ := ho47_.below hb55_ (by first | omega | (simp; omega) | simp)
    have z63_ := hb55_.size
    have B64_ := B54_.trans (hb55_.mono (by first | omega | (simp; omega) | simp))
    clear hb55_
    go_wp2
    go_loopw [8] (fun kk wr => ∃ k : Nat, kk = .int .i64 k ∧ (k ≤ (paidRow B).length) ∧ Below w.heap.size w wr ∧ w55.heap.size ≤ wr.heap.size ∧ Bytes wr (w.heap.size) A0 bs ∧ GridS wr (w.heap.size) (w1.heap.size) A3_ B ∧ Own wr (w1.heap.size) (w9.heap.size) A10_ (paidRow B) ∧ Own wr (w9.heap.size) (w17.heap.size) A18_ (paidRow B) ∧ Own wr (w26.heap.size) (w34.heap.size) A35_ (takersRow B) ∧ Own wr (w34.heap.size) (w44.heap.size) A45_ (fairRow B)) (fun kk _ => (paidRow B).length - (intOf kk).toNat)
    case atStart => exact ⟨0, rfl, Nat.zero_le _, B64_, (by first | omega | (simp; omega) | simp), o57_, o58_, o59_, o60_, o61_, o62_⟩
    case round =>
      obtain ⟨k, rfl, hk, k66_, k67_, k68_, k69_, k70_, k71_, k72_, k73_⟩ := hrel
      obtain ⟨w65, rfl⟩ : ∃ x, x = wr := ⟨_, rfl⟩
      by_cases hlt0 : k < (paidRow B).length
      · have h74_ : ((fairRow B).length : Int) = ((paidRow B).length : Int) := by omega
        have h74_b : (((fairRow B).length : Int) == ((paidRow B).length : Int)) = true := by simpa using h74_
        have h74_n : (((fairRow B).length : Int) != ((paidRow B).length : Int)) = false := by simpa using h74_
        have h74_le : ((fairRow B).length : Int) ≤ ((paidRow B).length : Int) := by omega
        have h74_ge : ((paidRow B).length : Int) ≤ ((fairRow B).length : Int) := by omega
        have Hh74_ := Lib.hid h74_
        clear h74_
        go_wp2
        go_loopw [9, 10] (fun tt jj wr => ∃ j : Nat, ∃ t : Int, tt = .int .i64 t ∧ jj = .int .i64 j ∧ (j ≤ (takersRow B).length) ∧ (0 ≤ t) ∧ (t ≤ 576 * j) ∧ (t = takesTo B j k) ∧ Below w.heap.size w wr ∧ w65.heap.size ≤ wr.heap.size ∧ Bytes wr (w.heap.size) A0 bs ∧ GridS wr (w.heap.size) (w1.heap.size) A3_ B ∧ Own wr (w1.heap.size) (w9.heap.size) A10_ (paidRow B) ∧ Own wr (w9.heap.size) (w17.heap.size) A18_ (paidRow B) ∧ Own wr (w26.heap.size) (w34.heap.size) A35_ (takersRow B) ∧ Own wr (w34.heap.size) (w44.heap.size) A45_ (fairRow B)) (fun tt jj _ => (takersRow B).length - (intOf jj).toNat)
        case atStart => exact ⟨0, 0, rfl, rfl, Nat.zero_le _, by omega, by omega, rfl, k66_, (by first | omega | (simp; omega) | simp), k68_, k69_, k70_, k71_, k72_, k73_⟩
        case round =>
          obtain ⟨j, t, rfl, rfl, hj, ht0, ht1, htk, k76_, k77_, k78_, k79_, k80_, k81_, k82_, k83_⟩ := hrel
          obtain ⟨w75, rfl⟩ : ∃ x, x = wr := ⟨_, rfl⟩
          have HTK := Lib.hid htk
          clear htk
          by_cases hlt2 : j < (takersRow B).length
          · obtain ⟨b84_, f85_, rfl, b84_l, b84_h, -⟩ := k82_.ints (by omega)
            have c86_ : w75.cell? ⟨b84_, f85_ + j, none⟩ = some (.int .i64 ((takersRow B).getD j 0)) := k82_.ints.at2 j (by first | omega | (simp; omega) | simp)
            have c86_i : (j : Int) < ((takersRow B).length : Int) := by omega
            have c86_j : (0 : Int) ≤ (j : Int) := by omega
            have v87_g := takers_rg HBO.out (j := j) (by omega)
            obtain ⟨v87_, hv87_⟩ : ∃ v, v = (takersRow B).getD j 0 := ⟨_, rfl⟩
            rw [← hv87_] at c86_ v87_g
            have Hv87_ := Lib.hid hv87_
            clear hv87_
            obtain ⟨v87_g1, v87_g2⟩ := v87_g
            by_cases h88_ : v87_ = (k : Int)
            · have h88_b : (v87_ == (k : Int)) = true := by simpa using h88_
              have h88_n : (v87_ != (k : Int)) = false := by simpa using h88_
              have h88_le : v87_ ≤ (k : Int) := by omega
              have h88_ge : (k : Int) ≤ v87_ := by omega
              have Hh88_ := Lib.hid h88_
              clear h88_
              obtain ⟨b89_, f90_, rfl, _, b89_h, -⟩ := k79_ (by omega)
              obtain ⟨b97_, f98_, d92_, c93_, F94_, rm96_⟩ := k79_.at_ k (by omega)
              obtain ⟨y95_, hy95_⟩ : ∃ y_, B.getD k [] = y_ := ⟨_, rfl⟩
              rw [hy95_] at c93_ F94_ rm96_
              have qy95_ := row_th HBO.out (k := k) (by omega) hy95_
              obtain ⟨qy95_a, qy95_b⟩ := qy95_
              have Hy95_ := Lib.hid hy95_
              clear hy95_
              have c93_ : w75.cell? ⟨b89_, f90_ + k, none⟩ = some (.slice (some ⟨b97_, f98_, none⟩) y95_.length d92_) := c93_
              have c93_i : (k : Int) < (B.length : Int) := by omega
              have c93_j : (0 : Int) ≤ (k : Int) := by omega
              have c99_ : w75.cell? ⟨b97_, f98_ + j, none⟩ = some (.int .i64 (y95_.getD j 0)) := F94_.at2 j (by first | omega | (simp; omega) | simp)
              have c99_i : (j : Int) < (y95_.length : Int) := by omega
              have c99_j : (0 : Int) ≤ (j : Int) := by omega
              have v100_g := (show 0 ≤ y95_.getD j 0 ∧ y95_.getD j 0 ≤ 12 from by rw [← Hy95_.out]; exact bid_rg HBO.out _ _)
              obtain ⟨v100_, hv100_⟩ : ∃ v, v = y95_.getD j 0 := ⟨_, rfl⟩
              rw [← hv100_] at c99_ v100_g
              have Hv100_ := Lib.hid hv100_
              clear hv100_
              obtain ⟨v100_g1, v100_g2⟩ := v100_g
              go_wp2
              go_roundw
              case rel => exact ⟨j + 1, (t + (48 * v100_)), by rfl, by go_num, by omega, by omega, by omega, takes_more HTK.out (by have e := best_of (j := j) (x := k) HBO.out (by omega) (by rw [← Hv87_.out]; exact Hh88_.out); exact e) (by unfold bid; rw [Hy95_.out]; exact Hv100_.out), k76_, (by first | omega | (simp; omega) | simp), k78_, k79_, k80_, k81_, k82_, k83_⟩
              case measure => simp [intOf] <;> omega
            · have h88_b : (v87_ == (k : Int)) = false := by simpa using h88_
              have h88_n : (v87_ != (k : Int)) = true := by simpa using h88_
              go_wp2
              go_roundw
              case rel => exact ⟨j + 1, t, by rfl, by go_num, by omega, by omega, by omega, takes_none HTK.out (fun q => h88_ (by rw [Hv87_.out, takersRow_yes HBO.out, fnRow_getD _ (by omega), q])), k76_, (by first | omega | (simp; omega) | simp), k78_, k79_, k80_, k81_, k82_, k83_⟩
              case measure => simp [intOf] <;> omega
          · have hje : things B ≤ j := by omega
            have hjf : j ≤ things B := by omega
            obtain ⟨P84_, hP84_⟩ : ∃ P, t * (B.length : Int) = P := ⟨_, rfl⟩
            have bP84_ := mul_len_rg (n := B.length) hB4 (show -20000 ≤ t by omega) (show t ≤ 20000 by omega)
            rw [hP84_] at bP84_
            obtain ⟨bP84_, bP84_'⟩ := bP84_
            have wP84_ : IntKind.i64.wrap P84_ = P84_ := IntWalk.i64_in _ (by omega)
            obtain ⟨b85_, f86_, rfl, b85_l, b85_h, -⟩ := k80_.ints (by omega)
            have c87_ : w75.cell? ⟨b85_, f86_ + k, none⟩ = some (.int .i64 ((paidRow B).getD k 0)) := k80_.ints.at2 k (by first | omega | (simp; omega) | simp)
            have c87_i : (k : Int) < ((paidRow B).length : Int) := by omega
            have c87_j : (0 : Int) ≤ (k : Int) := by omega
            have v88_g := paidRow_rg HBO.out k
            obtain ⟨v88_, hv88_⟩ : ∃ v, v = (paidRow B).getD k 0 := ⟨_, rfl⟩
            rw [← hv88_] at c87_ v88_g
            have Hv88_ := Lib.hid hv88_
            clear hv88_
            obtain ⟨v88_g1, v88_g2⟩ := v88_g
            obtain ⟨b89_, f90_, rfl, b89_l, b89_h, -⟩ := k83_.ints (by omega)
            have c91_ : w75.cell? ⟨b89_, f90_ + k, none⟩ = some (.int .i64 ((fairRow B).getD k 0)) := k83_.ints.at2 k (by first | omega | (simp; omega) | simp)
            have c91_i : (k : Int) < ((fairRow B).length : Int) := by omega
            have c91_j : (0 : Int) ≤ (k : Int) := by omega
            have v92_g := fairRow_rg HBO.out k
            obtain ⟨v92_, hv92_⟩ : ∃ v, v = (fairRow B).getD k 0 := ⟨_, rfl⟩
            rw [← hv92_] at c91_ v92_g
            have Hv92_ := Lib.hid hv92_
            clear hv92_
            obtain ⟨v92_g1, v92_g2⟩ := v92_g
            obtain ⟨P93_, hP93_⟩ : ∃ P, v92_ * (B.length : Int) = P := ⟨_, rfl⟩
            have bP93_ := mul_len_rg (n := B.length) hB4 (show -20000 ≤ v92_ by omega) (show v92_ ≤ 20000 by omega)
            rw [hP93_] at bP93_
            obtain ⟨bP93_, bP93_'⟩ := bP93_
            have wP93_ : IntKind.i64.wrap P93_ = P93_ := IntWalk.i64_in _ (by omega)
            have h94_ : (P84_ + v88_) = (P93_ + v56_) := by have e := paid_fair B k; rw [← hP84_, ← hP93_, ← Hv56_.out, surplusV, if_pos HBO.out, Hv88_.out, Hv92_.out, paidRow, if_pos HBO.out, fnRow_getD _ (by omega), fairRow_yes HBO.out, fnRow_getD _ (by omega), HTK.out]; rw [show j = things B from by omega]; exact e
            have h94_b : ((P84_ + v88_) == (P93_ + v56_)) = true := by simpa using h94_
            have h94_n : ((P84_ + v88_) != (P93_ + v56_)) = false := by simpa using h94_
            have h94_le : (P84_ + v88_) ≤ (P93_ + v56_) := by omega
            have h94_ge : (P93_ + v56_) ≤ (P84_ + v88_) := by omega
            have Hh94_ := Lib.hid h94_
            clear h94_
            have hw95_ : IntKind.i64.wrap P84_ = P84_ := IntWalk.i64_in _ (by omega)
            have hw96_ : IntKind.i64.wrap (P84_ + v88_) = (P84_ + v88_) := IntWalk.i64_in _ (by omega)
            have hw97_ : IntKind.i64.wrap P93_ = P93_ := IntWalk.i64_in _ (by omega)
            have hw98_ : IntKind.i64.wrap (P93_ + v56_) = (P93_ + v56_) := IntWalk.i64_in _ (by omega)
            go_wp2
            go_quiet (fail)
            obtain ⟨w99, hw99⟩ : ∃ x, x = w75.drewN nq := ⟨_, rfl⟩
            have hb100_ : Below w75.heap.size w75 w99 := by rw [hw99]; exact below_drewN (Below.refl _ _) _
            rw [← hw99]
            clear hw99
            clear hw95_ hw96_ hw97_ hw98_
            have o102_ := k78_.below hb100_ (by first | omega | (simp; omega) | simp)
            have o103_ := k79_.below hb100_ (by first | omega | (simp; omega) | simp)
            have o104_ := k80_.below hb100_ (by first | omega | (simp; omega) | simp)
            have o105_ := k81_.below hb100_ (by first | omega | (simp; omega) | simp)
            have o106_ := k82_.below hb100_ (by first | omega | (simp; omega) | simp)
            have o107_ := k83_.below hb100_ (by first | omega | (simp; omega) | simp)
            have z108_ := hb100_.size
            have B109_ := k76_.trans (hb100_.mono (by first | omega | (simp; omega) | simp))
            clear hb100_
            go_wp2
            go_roundw
            case rel => exact ⟨k + 1, by go_num, by omega, B109_, (by first | omega | (simp; omega) | simp), o102_, o103_, o104_, o105_, o106_, o107_⟩
            case measure => simp [intOf] <;> omega
      · go_wp2_with fail
        refine (lsumOf_any A10_ c11_ (paidRow B) _ _ _ k70_.ints (paidRow_small B)).mono ?_
        rintro e w' ⟨he, rfl⟩
        obtain ⟨v74_, hv74_⟩ : ∃ v, (paidRow B).sum = v := ⟨_, rfl⟩
        rw [hv74_] at he
        subst he
        have Hv74_ := Lib.hid hv74_
        clear hv74_
        have h75_ : v74_ = 0 := by rw [← Hv74_.out, paidRow, if_pos HBO.out, fnRow_sum]; exact paid_null B
        have h75_b : (v74_ == 0) = true := by simpa using h75_
        have h75_n : (v74_ != 0) = false := by simpa using h75_
        have h75_le : v74_ ≤ 0 := by omega
        have h75_ge : 0 ≤ v74_ := by omega
        have Hh75_ := Lib.hid h75_
        clear h75_
        have h76_ : v56_ ≥ 0 := by rw [← Hv56_.out, surplusV, if_pos HBO.out]; exact surplus_nonneg ((bidB_iff B).1 HBO.out)
        have h76_d : decide (v56_ ≥ 0) = true := decide_eq_true h76_
        have h77_ : ((paidRow B).length : Int) = (B.length : Int) := by omega
        have h77_b : (((paidRow B).length : Int) == (B.length : Int)) = true := by simpa using h77_
        have h77_n : (((paidRow B).length : Int) != (B.length : Int)) = false := by simpa using h77_
        have h77_le : ((paidRow B).length : Int) ≤ (B.length : Int) := by omega
        have h77_ge : (B.length : Int) ≤ ((paidRow B).length : Int) := by omega
        have Hh77_ := Lib.hid h77_
        clear h77_
        have h78_ : ((fairRow B).length : Int) = ((paidRow B).length : Int) := by omega
        have h78_b : (((fairRow B).length : Int) == ((paidRow B).length : Int)) = true := by simpa using h78_
        have h78_n : (((fairRow B).length : Int) != ((paidRow B).length : Int)) = false := by simpa using h78_
        have h78_le : ((fairRow B).length : Int) ≤ ((paidRow B).length : Int) := by omega
        have h78_ge : ((paidRow B).length : Int) ≤ ((fairRow B).length : Int) := by omega
        have Hh78_ := Lib.hid h78_
        clear h78_
        go_wp2
        go_ret
        exact ⟨ret_bool (by first | exact rfl | exact h78_b.trans rfl), k66_⟩

set_option maxRecDepth 10000 in
set_option maxHeartbeats 400000 in
theorem fnPaidRow_big (A0 : Option Addr) (c0 : Nat) (bs : List Int) (w : World) (hl : ¬ bs.length ≤ 1048576) (hm : bs.length ≤ 9223372036854775807) :
    Calls Try.prog 7 #[.slice A0 bs.length c0] w fun e w' => e = .returned (.bool true) ∧ Below w.heap.size w w' := by
  go_enter Try.func7, Try.ntmps7
  go_wp2
  go_ret
  exact ⟨rfl, Below.refl _ _⟩

theorem fnPaidRow_all (A0 : Option Addr) (c0 : Nat) (bs : List Int) (w : World) (h0 : Bytes w w.heap.size A0 bs) (hm : bs.length ≤ 9223372036854775807) (hc0 : bs.length ≤ c0) :
    Calls Try.prog 7 #[.slice A0 bs.length c0] w fun e w' => e = .returned (.bool true) ∧ Below w.heap.size w w' := by
  by_cases hl : bs.length ≤ 1048576
  · exact fnPaidRow_walk A0 c0 bs w h0 hl hc0
  · exact fnPaidRow_big A0 c0 bs w hl hm

end Go.Proofs.Ytpdlppmkjkbboaa
