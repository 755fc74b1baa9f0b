/-
  The law of PassShares returns true for every code, and writes nothing that was there. No condition.
-/
import Derived.Test.YtdbohnaohinieaaGA
import Derived.Test.YtdbohnaohinieaaDraw11
import Derived.Test.YtdbohnaohinieaaPassL
import Derived.Test.YtdbohnaohinieaaGame11I
import Derived.Test.YtdbohnaohinieaaGC
import Derived.Test.YtdbohnaohinieaaFx
import Derived.Deep.RegionHeld3
namespace Go.Proofs.Ytdbohnaohinieaa
open Go.RowKit

set_option maxRecDepth 10000 in
set_option maxHeartbeats 2000000 in
theorem fnPassShares_walk (A0 : Option Addr) (c0 : Nat) (bs : List Int) (w : World) (h0 : Bytes w w.heap.size A0 bs) (hl : bs.length ≤ 1048576) (hc0 : bs.length ≤ c0) :
    Calls Try.prog 4 #[.slice A0 bs.length c0] w fun e w' => e = .returned (.bool true) ∧ Below w.heap.size w w' := by
  have hlm : bs.length ≤ 9223372036854775807 := by omega
  go_enter Try.func4, Try.ntmps4
  have Htrue : Hid True := trivial
  have hc0u := hc0
  have h0u := h0
  have hlmu := hlm
  go_wp2_with fail
  refine (drawPassShares_any A0 c0 bs _ (h0.more (by first | omega | (simp; omega) | simp)) hlm hc0).mono ?_
  rintro e w1 ⟨g1, o1, c4_, vs, N, s, ⟨hg1a, hg1b⟩, hxc, hx12, ⟨hN1, hN8⟩, ⟨hsl, hsu⟩, rfl, ho5_, hb2_⟩
  have o6_ := h0.below hb2_ (by first | omega | (simp; omega) | simp)
  have z7_ := hb2_.size
  have B8_ := (Below.refl w.heap.size w).trans (hb2_.mono (by first | omega | (simp; omega) | simp))
  clear hb2_
  go_wp2_with fail
  refine (implPassShares_any N (some ⟨g1, o1, none⟩) c4_ vs s _ _ _ ho5_.ints (by first | omega | (simp; omega) | simp) (by omega)).mono ?_
  rintro e w9 ⟨A10_, c11_, rfl, ho12_, hb9_⟩
  have o13_ := o6_.below hb9_ (by first | omega | (simp; omega) | simp)
  have o14_ := ho5_.below hb9_ (by first | omega | (simp; omega) | simp)
  have z15_ := hb9_.size
  have B16_ := B8_.trans (hb9_.mono (by first | omega | (simp; omega) | simp))
  clear hb9_
  go_wp2_with fail
  refine (specPassShares_any N (some ⟨g1, o1, none⟩) c4_ vs s _ _ _ o14_.ints (by first | omega | (simp; omega) | simp) (by omega)).mono ?_
  rintro e w17 ⟨A18_, c19_, rfl, ho20_, hb17_⟩
  have o21_ := o13_.below hb17_ (by first | omega | (simp; omega) | simp)
  have o22_ := o14_.below hb17_ (by first | omega | (simp; omega) | simp)
  have o23_ := ho12_.below hb17_ (by first | omega | (simp; omega) | simp)
  have z24_ := hb17_.size
  have B25_ := B16_.trans (hb17_.mono (by first | omega | (simp; omega) | simp))
  clear hb17_
  go_wp2_with fail
  refine (sameInts_yes A10_ A18_ c11_ c19_ (passRow N vs s) (passRow N vs s) _ _ _ _ _ o23_.ints ho20_.ints (by have e := passRow_len4 N vs s; omega) rfl).mono ?_
  rintro e w26 ⟨rfl, hb26_⟩
  have o27_ := o21_.below hb26_ (by first | omega | (simp; omega) | simp)
  have o28_ := o22_.below hb26_ (by first | omega | (simp; omega) | simp)
  have o29_ := o23_.below hb26_ (by first | omega | (simp; omega) | simp)
  have o30_ := ho20_.below hb26_ (by first | omega | (simp; omega) | simp)
  have z31_ := hb26_.size
  have B32_ := B25_.trans (hb26_.mono (by first | omega | (simp; omega) | simp))
  clear hb26_
  by_cases h33_ : ((passRow N vs s).length : Int) = 0
  · have h33_b : (((passRow N vs s).length : Int) == 0) = true := by simpa using h33_
    have h33_n : (((passRow N vs s).length : Int) != 0) = false := by simpa using h33_
    have h33_le : ((passRow N vs s).length : Int) ≤ 0 := by omega
    have h33_ge : 0 ≤ ((passRow N vs s).length : Int) := by omega
    have Hh33_ := Lib.hid h33_
    clear h33_
    go_wp2_with fail
    refine (alive_any _).mono ?_
    rintro e w34 ⟨rfl, hb34_⟩
    have o35_ := o27_.below hb34_ (by first | omega | (simp; omega) | simp)
    have o36_ := o28_.below hb34_ (by first | omega | (simp; omega) | simp)
    have o37_ := o29_.below hb34_ (by first | omega | (simp; omega) | simp)
    have o38_ := o30_.below hb34_ (by first | omega | (simp; omega) | simp)
    have z39_ := hb34_.size
    have B40_ := B32_.trans (hb34_.mono (by first | omega | (simp; omega) | simp))
    clear hb34_
    go_wp2
    go_ret
    exact ⟨ret_bool (by first | exact rfl | exact h33_b.trans rfl), B40_⟩
  · have h33_b : (((passRow N vs s).length : Int) == 0) = false := by simpa using h33_
    have h33_n : (((passRow N vs s).length : Int) != 0) = true := by simpa using h33_
    obtain ⟨hvb, hpp⟩ := passRow_none (N := N) (vs := vs) (p := s) (by omega)
    obtain ⟨n, rfl⟩ := vis_nat hvb
    have HVB : Hid (visB (n : Int) vs = true) := hvb
    have hvn := vis_n hvb
    obtain ⟨hn1, hn4, hv6⟩ := hvn
    obtain ⟨hp1, hp2⟩ := pow_bd hn4
    have hpn := pow16 hn4
    obtain ⟨hpn1, hpn2⟩ := hpn
    clear hvb
    have HPP := Lib.hid hpp
    obtain ⟨hs0, hs12⟩ := hpp
    have HLO : Hid ((passRow (n : Int) vs s).length = n) := passRow_length HVB.out HPP.out
    have hlo1 : (passRow (n : Int) vs s).length ≤ n := by have e := HLO.out; omega
    have hlo2 : n ≤ (passRow (n : Int) vs s).length := by have e := HLO.out; omega
    go_wp2
    go_loopw [7] (fun kk wr => ∃ k : Nat, kk = .int .i64 k ∧ (k ≤ (passRow (n : Int) vs s).length) ∧ Below w.heap.size w wr ∧ w26.heap.size ≤ wr.heap.size ∧ Bytes wr (w.heap.size) A0 bs ∧ Own wr (w.heap.size) (w1.heap.size) (some ⟨g1, o1, none⟩) vs ∧ Own wr (w1.heap.size) (w9.heap.size) A10_ (passRow (n : Int) vs s) ∧ Own wr (w9.heap.size) (w17.heap.size) A18_ (passRow (n : Int) vs s)) (fun kk _ => (passRow (n : Int) vs s).length - (intOf kk).toNat)
    case atStart => exact ⟨0, rfl, Nat.zero_le _, B32_, (by first | omega | (simp; omega) | simp), o27_, o28_, o29_, o30_⟩
    case round =>
      obtain ⟨k, rfl, hk, k35_, k36_, k37_, k38_, k39_, k40_⟩ := hrel
      obtain ⟨w34, rfl⟩ : ∃ x, x = wr := ⟨_, rfl⟩
      by_cases hlt0 : k < (passRow (n : Int) vs s).length
      · go_wp2
        go_loopw [8] (fun jj wr => ∃ j : Nat, jj = .int .i64 j ∧ (j ≤ k) ∧ Below w.heap.size w wr ∧ w34.heap.size ≤ wr.heap.size ∧ Bytes wr (w.heap.size) A0 bs ∧ Own wr (w.heap.size) (w1.heap.size) (some ⟨g1, o1, none⟩) vs ∧ Own wr (w1.heap.size) (w9.heap.size) A10_ (passRow (n : Int) vs s) ∧ Own wr (w9.heap.size) (w17.heap.size) A18_ (passRow (n : Int) vs s)) (fun jj _ => k - (intOf jj).toNat)
        case atStart => exact ⟨0, rfl, Nat.zero_le _, k35_, (by first | omega | (simp; omega) | simp), k37_, k38_, k39_, k40_⟩
        case round =>
          obtain ⟨j, rfl, hj, k42_, k43_, k44_, k45_, k46_, k47_⟩ := hrel
          obtain ⟨w41, rfl⟩ : ∃ x, x = wr := ⟨_, rfl⟩
          by_cases hlt2 : j < k
          · go_wp2
            go_loopw [10, 9] (fun ii bb wr => ∃ i : Nat, ∃ b : Bool, ii = .int .i64 i ∧ bb = .bool b ∧ (i ≤ vs.length) ∧ (LikeTo vs k j i b) ∧ Below w.heap.size w wr ∧ w41.heap.size ≤ wr.heap.size ∧ Bytes wr (w.heap.size) A0 bs ∧ Own wr (w.heap.size) (w1.heap.size) (some ⟨g1, o1, none⟩) vs ∧ Own wr (w1.heap.size) (w9.heap.size) A10_ (passRow (n : Int) vs s) ∧ Own wr (w9.heap.size) (w17.heap.size) A18_ (passRow (n : Int) vs s)) (fun ii bb _ => vs.length - (intOf ii).toNat)
            case atStart => exact ⟨0, true, rfl, rfl, Nat.zero_le _, LikeTo.zero vs k j true, k42_, (by first | omega | (simp; omega) | simp), k44_, k45_, k46_, k47_⟩
            case round =>
              obtain ⟨i, b, rfl, rfl, hi, hsm, k49_, k50_, k51_, k52_, k53_, k54_⟩ := hrel
              obtain ⟨w48, rfl⟩ : ∃ x, x = wr := ⟨_, rfl⟩
              have HSM := Lib.hid hsm
              clear hsm
              by_cases hlt4 : i < vs.length
              · have c55_ : w48.cell? ⟨g1, o1 + i, none⟩ = some (.int .i64 (vs.getD i 0)) := k52_.ints.at2 i (by first | omega | (simp; omega) | simp)
                have c55_i : (i : Int) < (vs.length : Int) := by omega
                have c55_j : (0 : Int) ≤ (i : Int) := by omega
                have v56_g := vis_rg HVB.out i
                obtain ⟨v56_, hv56_⟩ : ∃ v, v = vs.getD i 0 := ⟨_, rfl⟩
                rw [← hv56_] at c55_ v56_g
                have Hv56_ := Lib.hid hv56_
                clear hv56_
                obtain ⟨v56_g1, v56_g2⟩ := v56_g
                have hqk : 0 ≤ v56_ / 2 ^ k := Int.ediv_nonneg (by omega) (by exact Int.le_of_lt (Int.pow_pos (by omega)))
                have hqj : 0 ≤ v56_ / 2 ^ j := Int.ediv_nonneg (by omega) (by exact Int.le_of_lt (Int.pow_pos (by omega)))
                by_cases h57_ : b = true
                · obtain rfl : b = true := h57_
                  go_wp2
                  go_quiet (fail)
                  obtain ⟨w58, hw58⟩ : ∃ x, x = w48.drewN nq := ⟨_, rfl⟩
                  have hb59_ : Below w48.heap.size w48 w58 := by rw [hw58]; exact below_drewN (Below.refl _ _) _
                  rw [← hw58]
                  clear hw58
                  have o61_ := k51_.below hb59_ (by first | omega | (simp; omega) | simp)
                  have o62_ := k52_.below hb59_ (by first | omega | (simp; omega) | simp)
                  have o63_ := k53_.below hb59_ (by first | omega | (simp; omega) | simp)
                  have o64_ := k54_.below hb59_ (by first | omega | (simp; omega) | simp)
                  have z65_ := hb59_.size
                  have B66_ := k49_.trans (hb59_.mono (by first | omega | (simp; omega) | simp))
                  clear hb59_
                  go_wp2
                  go_roundw
                  case rel => exact ⟨i + 1, (v56_ / 2 ^ k % 2 == v56_ / 2 ^ j % 2), by go_num, rfl, by omega, LikeTo.moreB HVB.out HSM.out Hv56_.out, B66_, (by first | omega | (simp; omega) | simp), o61_, o62_, o63_, o64_⟩
                  case measure => simp [intOf] <;> omega
                · obtain rfl : b = false := by simpa using h57_
                  go_wp2
                  go_quiet (fail)
                  obtain ⟨w58, hw58⟩ : ∃ x, x = w48.drewN nq := ⟨_, rfl⟩
                  have hb59_ : Below w48.heap.size w48 w58 := by rw [hw58]; exact below_drewN (Below.refl _ _) _
                  rw [← hw58]
                  clear hw58
                  have o61_ := k51_.below hb59_ (by first | omega | (simp; omega) | simp)
                  have o62_ := k52_.below hb59_ (by first | omega | (simp; omega) | simp)
                  have o63_ := k53_.below hb59_ (by first | omega | (simp; omega) | simp)
                  have o64_ := k54_.below hb59_ (by first | omega | (simp; omega) | simp)
                  have z65_ := hb59_.size
                  have B66_ := k49_.trans (hb59_.mono (by first | omega | (simp; omega) | simp))
                  clear hb59_
                  go_wp2
                  go_roundw
                  case rel => exact ⟨i + 1, false, by go_num, rfl, by omega, LikeTo.no _ _ _ _, B66_, (by first | omega | (simp; omega) | simp), o61_, o62_, o63_, o64_⟩
                  case measure => simp [intOf] <;> omega
              · obtain rfl : i = vs.length := by omega
                by_cases h55_ : b = true
                · obtain rfl : b = true := h55_
                  obtain ⟨b56_, f57_, rfl, b56_l, b56_h, -⟩ := k53_.ints (by omega)
                  have c58_ : w48.cell? ⟨b56_, f57_ + k, none⟩ = some (.int .i64 ((passRow (n : Int) vs s).getD k 0)) := k53_.ints.at2 k (by first | omega | (simp; omega) | simp)
                  have c58_i : (k : Int) < ((passRow (n : Int) vs s).length : Int) := by omega
                  have c58_j : (0 : Int) ≤ (k : Int) := by omega
                  have v59_g := passRow_rg (n : Int) vs s k
                  obtain ⟨v59_, hv59_⟩ : ∃ v, v = (passRow (n : Int) vs s).getD k 0 := ⟨_, rfl⟩
                  rw [← hv59_] at c58_ v59_g
                  have Hv59_ := Lib.hid hv59_
                  clear hv59_
                  obtain ⟨v59_g1, v59_g2⟩ := v59_g
                  have c60_ : w48.cell? ⟨b56_, f57_ + j, none⟩ = some (.int .i64 ((passRow (n : Int) vs s).getD j 0)) := k53_.ints.at2 j (by first | omega | (simp; omega) | simp)
                  have c60_i : (j : Int) < ((passRow (n : Int) vs s).length : Int) := by omega
                  have c60_j : (0 : Int) ≤ (j : Int) := by omega
                  have v61_g := passRow_rg (n : Int) vs s j
                  obtain ⟨v61_, hv61_⟩ : ∃ v, v = (passRow (n : Int) vs s).getD j 0 := ⟨_, rfl⟩
                  rw [← hv61_] at c60_ v61_g
                  have Hv61_ := Lib.hid hv61_
                  clear hv61_
                  obtain ⟨v61_g1, v61_g2⟩ := v61_g
                  have h62_ : v59_ = v61_ := by rw [Hv59_.out, Hv61_.out, passRow_at HVB.out HPP.out (by omega), passRow_at HVB.out HPP.out (by omega)]; exact pass_same (HSM.out rfl)
                  have h62_b : (v59_ == v61_) = true := by simpa using h62_
                  have h62_n : (v59_ != v61_) = false := by simpa using h62_
                  have h62_le : v59_ ≤ v61_ := by omega
                  have h62_ge : v61_ ≤ v59_ := by omega
                  have Hh62_ := Lib.hid h62_
                  clear h62_
                  go_wp2
                  go_quiet (fail)
                  obtain ⟨w63, hw63⟩ : ∃ x, x = w48.drewN nq := ⟨_, rfl⟩
                  have hb64_ : Below w48.heap.size w48 w63 := by rw [hw63]; exact below_drewN (Below.refl _ _) _
                  rw [← hw63]
                  clear hw63
                  have o66_ := k51_.below hb64_ (by first | omega | (simp; omega) | simp)
                  have o67_ := k52_.below hb64_ (by first | omega | (simp; omega) | simp)
                  have o68_ := k53_.below hb64_ (by first | omega | (simp; omega) | simp)
                  have o69_ := k54_.below hb64_ (by first | omega | (simp; omega) | simp)
                  have z70_ := hb64_.size
                  have B71_ := k49_.trans (hb64_.mono (by first | omega | (simp; omega) | simp))
                  clear hb64_
                  go_wp2
                  go_roundw
                  case rel => exact ⟨j + 1, by go_num, by omega, B71_, (by first | omega | (simp; omega) | simp), o66_, o67_, o68_, o69_⟩
                  case measure => simp [intOf] <;> omega
                · obtain rfl : b = false := by simpa using h55_
                  go_wp2
                  go_quiet (fail)
                  obtain ⟨w56, hw56⟩ : ∃ x, x = w48.drewN nq := ⟨_, rfl⟩
                  have hb57_ : Below w48.heap.size w48 w56 := by rw [hw56]; exact below_drewN (Below.refl _ _) _
                  rw [← hw56]
                  clear hw56
                  have o59_ := k51_.below hb57_ (by first | omega | (simp; omega) | simp)
                  have o60_ := k52_.below hb57_ (by first | omega | (simp; omega) | simp)
                  have o61_ := k53_.below hb57_ (by first | omega | (simp; omega) | simp)
                  have o62_ := k54_.below hb57_ (by first | omega | (simp; omega) | simp)
                  have z63_ := hb57_.size
                  have B64_ := k49_.trans (hb57_.mono (by first | omega | (simp; omega) | simp))
                  clear hb57_
                  go_wp2
                  go_roundw
                  case rel => exact ⟨j + 1, by go_num, by omega, B64_, (by first | omega | (simp; omega) | simp), o59_, o60_, o61_, o62_⟩
                  case measure => simp [intOf] <;> omega
          · go_wp2
            go_roundw
            case rel => exact ⟨k + 1, by go_num, by omega, k42_, (by first | omega | (simp; omega) | simp), k44_, k45_, k46_, k47_⟩
            case measure => simp [intOf] <;> omega
      · have h41_ : ((passRow (n : Int) vs s).length : Int) = (n : Int) := by omega
        have h41_b : (((passRow (n : Int) vs s).length : Int) == (n : Int)) = true := by simpa using h41_
        have h41_n : (((passRow (n : Int) vs s).length : Int) != (n : Int)) = false := by simpa using h41_
        have h41_le : ((passRow (n : Int) vs s).length : Int) ≤ (n : Int) := by omega
        have h41_ge : (n : Int) ≤ ((passRow (n : Int) vs s).length : Int) := by omega
        have Hh41_ := Lib.hid h41_
        clear h41_
        obtain ⟨v42_, hv42_⟩ : ∃ v, (passRow (n : Int) vs s).sum = v := ⟨_, rfl⟩
        have Hv42_ := Lib.hid hv42_
        clear hv42_
        obtain ⟨v43_, hv43_⟩ : ∃ v, passW (n : Int) vs ((2 ^ n) - 1) = v := ⟨_, rfl⟩
        have bv43_ : -1 ≤ v43_ ∧ v43_ ≤ 6 := by rw [← hv43_]; exact passW_rg _ _ _
        obtain ⟨bv43_1, bv43_2⟩ := bv43_
        have Hv43_ := Lib.hid hv43_
        clear hv43_
        obtain ⟨P44_, hP44_⟩ : ∃ P, (48 * s) * v43_ = P := ⟨_, rfl⟩
        have bP44_ := mul_rg6 (a := (48 * s)) (b := v43_) (by omega) (by omega)
        rw [hP44_] at bP44_
        obtain ⟨bP44_, bP44_'⟩ := bP44_
        have wP44_ : IntKind.i64.wrap P44_ = P44_ := IntWalk.i64_in _ (by omega)
        have h45_ : v42_ = P44_ := by rw [← hP44_, ← Hv42_.out, ← Hv43_.out]; exact passRow_sum HVB.out HPP.out
        have h45_b : (v42_ == P44_) = true := by simpa using h45_
        have h45_n : (v42_ != P44_) = false := by simpa using h45_
        have h45_le : v42_ ≤ P44_ := by omega
        have h45_ge : P44_ ≤ v42_ := by omega
        have Hh45_ := Lib.hid h45_
        clear h45_
        have hw49_ : IntKind.i64.wrap (48 * s) = (48 * s) := IntWalk.i64_in _ (by omega)
        have hw50_ : IntKind.i64.wrap (2 ^ n) = (2 ^ n) := IntWalk.i64_in _ (by omega)
        have hw51_ : IntKind.i64.wrap ((2 ^ n) - 1) = ((2 ^ n) - 1) := IntWalk.i64_in _ (by omega)
        have hw52_ : IntKind.i64.wrap P44_ = P44_ := IntWalk.i64_in _ (by omega)
        have g57_ : w.heap.size ≤ w34.heap.size := (by first | omega | (simp; omega) | simp)
        have g58_ : w1.heap.size ≤ w34.heap.size := (by first | omega | (simp; omega) | simp)
        have g59_ : w9.heap.size ≤ w34.heap.size := (by first | omega | (simp; omega) | simp)
        have g60_ : w17.heap.size ≤ w34.heap.size := (by first | omega | (simp; omega) | simp)
        have g61_ : w.heap.size ≤ w34.heap.size := (by first | omega | (simp; omega) | simp)
        go_wp2_with fail
        refine wp_region_held_drew (S := (fun w' : World => Below w.heap.size w w' ∧ w34.heap.size ≤ w'.heap.size ∧ Bytes w' (w.heap.size) A0 bs ∧ Own w' (w.heap.size) (w1.heap.size) (some ⟨g1, o1, none⟩) vs ∧ Own w' (w1.heap.size) (w9.heap.size) A10_ (passRow (n : Int) vs s) ∧ Own w' (w9.heap.size) (w17.heap.size) A18_ (passRow (n : Int) vs s) ∧ w34.heap.size ≤ w'.heap.size)) (by kernel_rfl) ⟨k35_.drew, by exact (by first | omega | (simp; omega) | simp), k37_, k38_, k39_, k40_, Nat.le_refl _⟩ (fun hHeld => ?_)
        refine wpAnyH_take (i := 0) (oi := ?oi1) (v := ?vv1) ?hi1 ?hs1 ?hf1 ?ha1 ?hq1 ?hy1 hHeld ?hr1
        case hi1 => (simp only [List.getElem?_toArray, List.getElem?_cons_zero]; exact rfl)
        case hs1 => kernel_rfl
        case hf1 => kernel_rfl
        case ha1 => kernel_rfl
        case hq1 => exact fun _ _ _ h => h
        case hy1 =>
          refine Or.inl ⟨by rfl, ?_⟩
          intro w' hSw
          try dsimp only at hSw
          go_simp
          first | done | with_reducible rfl
        simp only [Act.put, List.setIfInBounds_toArray, List.set_cons_succ, List.set_cons_zero]
        refine wpAnyH_take (i := 1) (oi := ?oi2) (v := ?vv2) ?hi2 ?hs2 ?hf2 ?ha2 ?hq2 ?hy2 hHeld ?hr2
        case hi2 => (simp only [List.getElem?_toArray, List.getElem?_cons_succ, List.getElem?_cons_zero]; exact rfl)
        case hs2 => kernel_rfl
        case hf2 => kernel_rfl
        case ha2 => kernel_rfl
        case hq2 => exact fun _ _ _ h => h
        case hy2 =>
          refine Or.inl ⟨by rfl, ?_⟩
          intro w' hSw
          try dsimp only at hSw
          go_simp
          first | done | with_reducible rfl
        simp only [Act.put, List.setIfInBounds_toArray, List.set_cons_succ, List.set_cons_zero]
        refine wpAnyH_take (i := 2) (oi := ?oi3) (v := ?vv3) ?hi3 ?hs3 ?hf3 ?ha3 ?hq3 ?hy3 hHeld ?hr3
        case hi3 => (simp only [List.getElem?_toArray, List.getElem?_cons_succ, List.getElem?_cons_zero]; exact rfl)
        case hs3 => kernel_rfl
        case hf3 => kernel_rfl
        case ha3 => kernel_rfl
        case hq3 => exact fun _ _ _ h => h
        case hy3 =>
          refine Or.inl ⟨by rfl, ?_⟩
          intro w' hSw
          try dsimp only at hSw
          go_simp
          first | done | with_reducible rfl
        simp only [Act.put, List.setIfInBounds_toArray, List.set_cons_succ, List.set_cons_zero]
        refine wpAnyH_take (i := 3) (oi := ?oi4) (v := ?vv4) ?hi4 ?hs4 ?hf4 ?ha4 ?hq4 ?hy4 hHeld ?hr4
        case hi4 => (simp only [List.getElem?_toArray, List.getElem?_cons_succ, List.getElem?_cons_zero]; exact rfl)
        case hs4 => kernel_rfl
        case hf4 => kernel_rfl
        case ha4 => kernel_rfl
        case hq4 => exact fun _ _ _ h => h
        case hy4 =>
          refine Or.inl ⟨by rfl, ?_⟩
          intro w' hSw
          try dsimp only at hSw
          go_simp
          first | done | with_reducible rfl
        simp only [Act.put, List.setIfInBounds_toArray, List.set_cons_succ, List.set_cons_zero]
        refine wpAnyH_take (i := 4) (oi := ?oi5) (v := ?vv5) ?hi5 ?hs5 ?hf5 ?ha5 ?hq5 ?hy5 hHeld ?hr5
        case hi5 => (simp only [List.getElem?_toArray, List.getElem?_cons_succ, List.getElem?_cons_zero]; exact rfl)
        case hs5 => kernel_rfl
        case hf5 => kernel_rfl
        case ha5 => kernel_rfl
        case hq5 => exact fun _ _ _ h => h
        case hy5 =>
          refine Or.inl ⟨by rfl, ?_⟩
          intro w' hSw
          try dsimp only at hSw
          go_simp
          first | done | with_reducible rfl
        simp only [Act.put, List.setIfInBounds_toArray, List.set_cons_succ, List.set_cons_zero]
        refine wpAnyH_take (i := 5) (oi := ?oi6) (v := ?vv6) ?hi6 ?hs6 ?hf6 ?ha6 ?hq6 ?hy6 hHeld ?hr6
        case hi6 => (simp only [List.getElem?_toArray, List.getElem?_cons_succ, List.getElem?_cons_zero]; exact rfl)
        case hs6 => kernel_rfl
        case hf6 => kernel_rfl
        case ha6 => kernel_rfl
        case hq6 => exact fun _ _ _ h => h
        case hy6 =>
          refine Or.inl ⟨by rfl, ?_⟩
          intro w' hSw
          try dsimp only at hSw
          go_simp
          first | done | with_reducible rfl
        simp only [Act.put, List.setIfInBounds_toArray, List.set_cons_succ, List.set_cons_zero]
        refine wpAnyH_take (i := 7) (oi := ?oi7) (v := ?vv7) ?hi7 ?hs7 ?hf7 ?ha7 ?hq7 ?hy7 hHeld ?hr7
        case hi7 => (simp only [List.getElem?_toArray, List.getElem?_cons_succ, List.getElem?_cons_zero]; exact rfl)
        case hs7 => kernel_rfl
        case hf7 => kernel_rfl
        case ha7 => kernel_rfl
        case hq7 => exact fun _ _ _ h => h
        case hy7 =>
          refine Or.inl ⟨by rfl, ?_⟩
          intro w' hSw
          try dsimp only at hSw
          go_simp
          first | done | with_reducible rfl
        simp only [Act.put, List.setIfInBounds_toArray, List.set_cons_succ, List.set_cons_zero]
        refine wpAnyH_take (i := 8) (oi := ?oi8) (v := ?vv8) ?hi8 ?hs8 ?hf8 ?ha8 ?hq8 ?hy8 hHeld ?hr8
        case hi8 => (simp only [List.getElem?_toArray, List.getElem?_cons_succ, List.getElem?_cons_zero]; exact rfl)
        case hs8 => kernel_rfl
        case hf8 => kernel_rfl
        case ha8 => kernel_rfl
        case hq8 => exact fun _ _ _ h => h
        case hy8 =>
          refine Or.inl ⟨by rfl, ?_⟩
          intro w' hSw
          try dsimp only at hSw
          go_simp
          first | done | with_reducible rfl
        simp only [Act.put, List.setIfInBounds_toArray, List.set_cons_succ, List.set_cons_zero]
        refine wpAnyH_take (i := 9) (oi := ?oi9) (v := ?vv9) ?hi9 ?hs9 ?hf9 ?ha9 ?hq9 ?hy9 hHeld ?hr9
        case hi9 => (simp only [List.getElem?_toArray, List.getElem?_cons_succ, List.getElem?_cons_zero]; exact rfl)
        case hs9 => kernel_rfl
        case hf9 => kernel_rfl
        case ha9 => kernel_rfl
        case hq9 => exact fun _ _ _ h => h
        case hy9 =>
          refine Or.inl ⟨by rfl, ?_⟩
          intro w' hSw
          try dsimp only at hSw
          go_simp
          first | done | with_reducible rfl
        simp only [Act.put, List.setIfInBounds_toArray, List.set_cons_succ, List.set_cons_zero]
        refine wpAnyH_take (i := 10) (oi := ?oi10) (v := ?vv10) ?hi10 ?hs10 ?hf10 ?ha10 ?hq10 ?hy10 hHeld ?hr10
        case hi10 => (simp only [List.getElem?_toArray, List.getElem?_cons_succ, List.getElem?_cons_zero]; exact rfl)
        case hs10 => kernel_rfl
        case hf10 => kernel_rfl
        case ha10 => kernel_rfl
        case hq10 => exact fun _ _ _ h => h
        case hy10 =>
          refine Or.inl ⟨by rfl, ?_⟩
          intro w' hSw
          try dsimp only at hSw
          go_simp
          first | done | with_reducible rfl
        simp only [Act.put, List.setIfInBounds_toArray, List.set_cons_succ, List.set_cons_zero]
        refine wpAnyH_take (i := 11) (oi := ?oi11) (v := ?vv11) ?hi11 ?hs11 ?hf11 ?ha11 ?hq11 ?hy11 hHeld ?hr11
        case hi11 => (simp only [List.getElem?_toArray, List.getElem?_cons_succ, List.getElem?_cons_zero]; exact rfl)
        case hs11 => kernel_rfl
        case hf11 => kernel_rfl
        case ha11 => kernel_rfl
        case hq11 => exact fun _ _ _ h => h
        case hy11 =>
          refine Or.inl ⟨by rfl, ?_⟩
          intro w' hSw
          try dsimp only at hSw
          go_simp
          first | done | with_reducible rfl
        simp only [Act.put, List.setIfInBounds_toArray, List.set_cons_succ, List.set_cons_zero]
        refine wpAnyH_take (i := 12) (oi := ?oi12) (v := ?vv12) ?hi12 ?hs12 ?hf12 ?ha12 ?hq12 ?hy12 hHeld ?hr12
        case hi12 => (simp only [List.getElem?_toArray, List.getElem?_cons_succ, List.getElem?_cons_zero]; exact rfl)
        case hs12 => kernel_rfl
        case hf12 => kernel_rfl
        case ha12 => kernel_rfl
        case hq12 => exact fun _ _ _ h => h
        case hy12 =>
          refine Or.inl ⟨by rfl, ?_⟩
          intro w' hSw
          try dsimp only at hSw
          go_simp
          first | done | with_reducible rfl
        simp only [Act.put, List.setIfInBounds_toArray, List.set_cons_succ, List.set_cons_zero]
        refine wpAnyH_take (i := 13) (oi := ?oi13) (v := ?vv13) ?hi13 ?hs13 ?hf13 ?ha13 ?hq13 ?hy13 hHeld ?hr13
        case hi13 => (simp only [List.getElem?_toArray, List.getElem?_cons_succ, List.getElem?_cons_zero]; exact rfl)
        case hs13 => kernel_rfl
        case hf13 => kernel_rfl
        case ha13 => kernel_rfl
        case hq13 => exact fun _ _ _ h => h
        case hy13 =>
          refine Or.inl ⟨by rfl, ?_⟩
          intro w' hSw
          try dsimp only at hSw
          go_simp
          first | done | with_reducible rfl
        simp only [Act.put, List.setIfInBounds_toArray, List.set_cons_succ, List.set_cons_zero]
        refine wpAnyH_ready (rs := [6]) (by kernel_rfl) (by simp) ?_
        refine AllReadyH.cons rfl (fun K hK => ?_) AllReadyH.nil
        go_simp
        go_at_call 20
        obtain ⟨BB, zz, k53_, k54_, k55_, k56_, zw⟩ := hHeld
        (with_reducible refine (same_is (lsumOf_any A10_ c11_ (passRow (n : Int) vs s) _ _ _ k55_.ints (passRow_small _ _ _)) (congrArg (Value.int .i64) Hv42_.out)).mono ?_)
        rintro e w9 ⟨rfl, rfl⟩
        refine hK.out _ _ ⟨BB, zz, k53_, k54_, k55_, k56_, zw⟩ (fun hHeld => ?_)
        clear hK K
        try simp only [Act.put, List.setIfInBounds_toArray, List.set_cons_zero, List.set_cons_succ]
        refine wpAnyH_ready (rs := [14]) (by kernel_rfl) (by simp) ?_
        refine AllReadyH.cons rfl (fun K hK => ?_) AllReadyH.nil
        go_simp
        go_at_call 21
        obtain ⟨BB, zz, k53_, k54_, k55_, k56_, zw⟩ := hHeld
        (with_reducible refine (below_is (implPassWorth_any (n : Int) (some ⟨g1, o1, none⟩) c4_ vs ((2 ^ n) - 1) _ _ _ k54_.ints (by first | omega | (simp; omega) | simp) (by omega)) (congrArg (Value.int .i64) Hv43_.out)).mono ?_)
        rintro e w62 ⟨rfl, hb9⟩
        refine hK.out _ _ ⟨BB.trans (hb9.mono (by omega)), Nat.le_trans zz hb9.size, k53_.below hb9 (by first | omega | (simp; omega) | simp), k54_.below hb9 (by first | omega | (simp; omega) | simp), k55_.below hb9 (by first | omega | (simp; omega) | simp), k56_.below hb9 (by first | omega | (simp; omega) | simp), Nat.le_trans zw hb9.size⟩ (fun hHeld => ?_)
        clear hb9 zw k56_ k55_ k54_ k53_ zz BB
        clear hK K
        try simp only [Act.put, List.setIfInBounds_toArray, List.set_cons_zero, List.set_cons_succ]
        refine wpAnyH_take (i := 15) (oi := ?oi14) (v := ?vv14) ?hi14 ?hs14 ?hf14 ?ha14 ?hq14 ?hy14 hHeld ?hr14
        case hi14 => (simp only [List.getElem?_toArray, List.getElem?_cons_succ, List.getElem?_cons_zero]; exact rfl)
        case hs14 => kernel_rfl
        case hf14 => kernel_rfl
        case ha14 => kernel_rfl
        case hq14 => exact fun _ _ _ h => h
        case hy14 =>
          refine Or.inl ⟨by rfl, ?_⟩
          intro w' hSw
          try dsimp only at hSw
          go_simp
          first | done | with_reducible rfl
        simp only [Act.put, List.setIfInBounds_toArray, List.set_cons_succ, List.set_cons_zero]
        refine wpAnyH_take (i := 16) (oi := ?oi15) (v := ?vv15) ?hi15 ?hs15 ?hf15 ?ha15 ?hq15 ?hy15 hHeld ?hr15
        case hi15 => (simp only [List.getElem?_toArray, List.getElem?_cons_succ, List.getElem?_cons_zero]; exact rfl)
        case hs15 => kernel_rfl
        case hf15 => kernel_rfl
        case ha15 => kernel_rfl
        case hq15 => exact fun _ _ _ h => h
        case hy15 =>
          refine Or.inl ⟨by rfl, ?_⟩
          intro w' hSw
          try dsimp only at hSw
          go_simp
          first | done | with_reducible rfl
        simp only [Act.put, List.setIfInBounds_toArray, List.set_cons_succ, List.set_cons_zero]
        refine wpAnyH_take (i := 17) (oi := ?oi16) (v := ?vv16) ?hi16 ?hs16 ?hf16 ?ha16 ?hq16 ?hy16 hHeld ?hr16
        case hi16 => (simp only [List.getElem?_toArray, List.getElem?_cons_succ, List.getElem?_cons_zero]; exact rfl)
        case hs16 => kernel_rfl
        case hf16 => kernel_rfl
        case ha16 => kernel_rfl
        case hq16 => exact fun _ _ _ h => h
        case hy16 =>
          refine Or.inl ⟨by rfl, ?_⟩
          intro w' hSw
          try dsimp only at hSw
          go_simp
          first | done | with_reducible rfl
        simp only [Act.put, List.setIfInBounds_toArray, List.set_cons_succ, List.set_cons_zero]
        refine wpAnyH_take (i := 18) (oi := ?oi17) (v := ?vv17) ?hi17 ?hs17 ?hf17 ?ha17 ?hq17 ?hy17 hHeld ?hr17
        case hi17 => (simp only [List.getElem?_toArray, List.getElem?_cons_succ, List.getElem?_cons_zero]; exact rfl)
        case hs17 => kernel_rfl
        case hf17 => kernel_rfl
        case ha17 => kernel_rfl
        case hq17 => exact fun _ _ _ h => h
        case hy17 =>
          refine Or.inl ⟨by rfl, ?_⟩
          intro w' hSw
          try dsimp only at hSw
          go_simp
          first | done | with_reducible rfl
        simp only [Act.put, List.setIfInBounds_toArray, List.set_cons_succ, List.set_cons_zero]
        refine wpAnyH_take (i := 19) (oi := ?oi18) (v := ?vv18) ?hi18 ?hs18 ?hf18 ?ha18 ?hq18 ?hy18 hHeld ?hr18
        case hi18 => (simp only [List.getElem?_toArray, List.getElem?_cons_succ, List.getElem?_cons_zero]; exact rfl)
        case hs18 => kernel_rfl
        case hf18 => kernel_rfl
        case ha18 => kernel_rfl
        case hq18 => exact fun _ _ _ h => h
        case hy18 =>
          refine Or.inl ⟨by rfl, ?_⟩
          intro w' hSw
          try dsimp only at hSw
          go_simp
          first | done | with_reducible rfl
        simp only [Act.put, List.setIfInBounds_toArray, List.set_cons_succ, List.set_cons_zero]
        refine wpAnyH_take (i := 20) (oi := ?oi19) (v := ?vv19) ?hi19 ?hs19 ?hf19 ?ha19 ?hq19 ?hy19 hHeld ?hr19
        case hi19 => (simp only [List.getElem?_toArray, List.getElem?_cons_succ, List.getElem?_cons_zero]; exact rfl)
        case hs19 => kernel_rfl
        case hf19 => kernel_rfl
        case ha19 => kernel_rfl
        case hq19 => exact fun _ _ _ h => h
        case hy19 =>
          refine Or.inl ⟨by rfl, ?_⟩
          intro w' hSw
          try dsimp only at hSw
          go_simp
          first | done | with_reducible rfl
        simp only [Act.put, List.setIfInBounds_toArray, List.set_cons_succ, List.set_cons_zero]
        refine wpAnyH_take (i := 21) (oi := ?oi20) (v := ?vv20) ?hi20 ?hs20 ?hf20 ?ha20 ?hq20 ?hy20 hHeld ?hr20
        case hi20 => (simp only [List.getElem?_toArray, List.getElem?_cons_succ, List.getElem?_cons_zero]; exact rfl)
        case hs20 => kernel_rfl
        case hf20 => kernel_rfl
        case ha20 => kernel_rfl
        case hq20 => exact fun _ _ _ h => h
        case hy20 =>
          refine Or.inl ⟨by rfl, ?_⟩
          intro w' hSw
          try dsimp only at hSw
          go_simp
          first | done | with_reducible rfl
        simp only [Act.put, List.setIfInBounds_toArray, List.set_cons_succ, List.set_cons_zero]
        refine wpAnyH_take (i := 23) (oi := ?oi21) (v := ?vv21) ?hi21 ?hs21 ?hf21 ?ha21 ?hq21 ?hy21 hHeld ?hr21
        case hi21 => (simp only [List.getElem?_toArray, List.getElem?_cons_succ, List.getElem?_cons_zero]; exact rfl)
        case hs21 => kernel_rfl
        case hf21 => kernel_rfl
        case ha21 => kernel_rfl
        case hq21 => exact fun _ _ _ h => h
        case hy21 =>
          refine Or.inl ⟨by rfl, ?_⟩
          intro w' hSw
          try dsimp only at hSw
          go_simp
          first | done | with_reducible rfl
        simp only [Act.put, List.setIfInBounds_toArray, List.set_cons_succ, List.set_cons_zero]
        refine wpAnyH_ready (rs := [22]) (by kernel_rfl) (by simp) ?_
        refine AllReadyH.cons rfl (fun K hK => ?_) AllReadyH.nil
        go_simp
        go_at_call 22
        obtain ⟨BB, zz, k53_, k54_, k55_, k56_, zw⟩ := hHeld
        (with_reducible refine (implPassOrders_any (n : Int) (some ⟨g1, o1, none⟩) c4_ vs s _ _ _ k54_.ints (by first | omega | (simp; omega) | simp) (by omega)).mono ?_)
        rintro e w63 ⟨A46_, c47_, rfl, ho48_, hb9⟩
        have ho48_ := ho48_.more (lo' := w34.heap.size) (by omega) (Nat.le_refl _)
        refine hK.out _ _ ⟨BB.trans (hb9.mono (by omega)), Nat.le_trans zz hb9.size, k53_.below hb9 (by first | omega | (simp; omega) | simp), k54_.below hb9 (by first | omega | (simp; omega) | simp), k55_.below hb9 (by first | omega | (simp; omega) | simp), k56_.below hb9 (by first | omega | (simp; omega) | simp), Nat.le_trans zw hb9.size⟩ (fun hHeld => ?_)
        clear hb9 zw k56_ k55_ k54_ k53_ zz BB
        clear hK K
        try simp only [Act.put, List.setIfInBounds_toArray, List.set_cons_zero, List.set_cons_succ]
        refine wpAnyH_ready (rs := [24]) (by kernel_rfl) (by simp) ?_
        refine AllReadyH.cons rfl (fun K hK => ?_) AllReadyH.nil
        go_simp
        go_at_call 18
        obtain ⟨BB, zz, k53_, k54_, k55_, k56_, zw⟩ := hHeld
        (with_reducible refine (sameInts_yes A46_ A10_ c47_ c11_ (passRow (n : Int) vs s) (passRow (n : Int) vs s) _ _ _ _ _ ho48_.ints k55_.ints (by have e := passRow_len4 (n : Int) vs s; omega) rfl).mono ?_)
        rintro e w64 ⟨rfl, hb9⟩
        have ho48_ := ho48_.below hb9 (Nat.le_refl _)
        have ho48_ := ho48_.more (Nat.le_refl _) hb9.size
        refine hK.out _ _ ⟨BB.trans (hb9.mono (by omega)), Nat.le_trans zz hb9.size, k53_.below hb9 (by first | omega | (simp; omega) | simp), k54_.below hb9 (by first | omega | (simp; omega) | simp), k55_.below hb9 (by first | omega | (simp; omega) | simp), k56_.below hb9 (by first | omega | (simp; omega) | simp), Nat.le_trans zw hb9.size⟩ (fun hHeld => ?_)
        clear hb9 zw k56_ k55_ k54_ k53_ zz BB
        clear hK K
        try simp only [Act.put, List.setIfInBounds_toArray, List.set_cons_zero, List.set_cons_succ]
        refine wpAnyH_take (i := 25) (oi := ?oi22) (v := ?vv22) ?hi22 ?hs22 ?hf22 ?ha22 ?hq22 ?hy22 hHeld ?hr22
        case hi22 => (simp only [List.getElem?_toArray, List.getElem?_cons_succ, List.getElem?_cons_zero]; exact rfl)
        case hs22 => kernel_rfl
        case hf22 => kernel_rfl
        case ha22 => kernel_rfl
        case hq22 => exact fun _ _ _ h => h
        case hy22 =>
          refine Or.inl ⟨by rfl, ?_⟩
          intro w' hSw
          try dsimp only at hSw
          go_simp
          first | done | with_reducible rfl
        simp only [Act.put, List.setIfInBounds_toArray, List.set_cons_succ, List.set_cons_zero]
        refine wpAnyH_take (i := 26) (oi := ?oi23) (v := ?vv23) ?hi23 ?hs23 ?hf23 ?ha23 ?hq23 ?hy23 hHeld ?hr23
        case hi23 => (simp only [List.getElem?_toArray, List.getElem?_cons_succ, List.getElem?_cons_zero]; exact rfl)
        case hs23 => kernel_rfl
        case hf23 => kernel_rfl
        case ha23 => kernel_rfl
        case hq23 => exact fun _ _ _ h => h
        case hy23 =>
          refine Or.inl ⟨by rfl, ?_⟩
          intro w' hSw
          try dsimp only at hSw
          go_simp
          first | done | with_reducible rfl
        simp only [Act.put, List.setIfInBounds_toArray, List.set_cons_succ, List.set_cons_zero]
        refine wpAnyH_done (by kernel_rfl) ?_ _
        obtain ⟨BB, zz, k53_, k54_, k55_, k56_, zw⟩ := hHeld
        clear hw49_ hw50_ hw51_ hw52_
        have k65_ := BB
        clear BB
        have k66_ := zz
        clear zz
        have k67_ := zw
        clear zw
        go_wp2
        go_ret
        exact ⟨ret_bool (by first | exact rfl | exact h45_b.trans rfl), k65_⟩

set_option maxRecDepth 10000 in
set_option maxHeartbeats 400000 in
theorem fnPassShares_big (A0 : Option Addr) (c0 : Nat) (bs : List Int) (w : World) (hl : ¬ bs.length ≤ 1048576) (hm : bs.length ≤ 9223372036854775807) :
    Calls Try.prog 4 #[.slice A0 bs.length c0] w fun e w' => e = .returned (.bool true) ∧ Below w.heap.size w w' := by
  go_enter Try.func4, Try.ntmps4
  go_wp2
  go_ret
  exact ⟨rfl, Below.refl _ _⟩

theorem fnPassShares_all (A0 : Option Addr) (c0 : Nat) (bs : List Int) (w : World) (h0 : Bytes w w.heap.size A0 bs) (hm : bs.length ≤ 9223372036854775807) (hc0 : bs.length ≤ c0) :
    Calls Try.prog 4 #[.slice A0 bs.length c0] w fun e w' => e = .returned (.bool true) ∧ Below w.heap.size w w' := by
  by_cases hl : bs.length ≤ 1048576
  · exact fnPassShares_walk A0 c0 bs w h0 hl hc0
  · exact fnPassShares_big A0 c0 bs w hl hm

end Go.Proofs.Ytdbohnaohinieaa
