/-
  The law of the price of passes returns true for every code, and writes nothing that was there. No condition.
-/
import Derived.Test.YtdbohnaohinieaaGA
import Derived.Test.YtdbohnaohinieaaDraw11
import Derived.Test.YtdbohnaohinieaaPassL
import Derived.Test.YtdbohnaohinieaaGame11I
import Derived.Test.YtdbohnaohinieaaGC
import Derived.Test.YtdbohnaohinieaaPassM
import Derived.Test.YtdbohnaohinieaaWant
import Derived.Test.YtdbohnaohinieaaFx
import Derived.Deep.RegionHeld3
namespace Go.Proofs.Ytdbohnaohinieaa
open Go.RowKit

set_option maxRecDepth 10000 in
set_option maxHeartbeats 2000000 in
theorem fnPassPrice_walk (A0 : Option Addr) (c0 : Nat) (bs : List Int) (w : World) (h0 : Bytes w w.heap.size A0 bs) (hl : bs.length ≤ 1048576) (hc0 : bs.length ≤ c0) :
    Calls Try.prog 7 #[.slice A0 bs.length c0] w fun e w' => e = .returned (.bool true) ∧ Below w.heap.size w w' := by
  have hlm : bs.length ≤ 9223372036854775807 := by omega
  go_enter Try.func7, Try.ntmps7
  have Htrue : Hid True := trivial
  have hc0u := hc0
  have h0u := h0
  have hlmu := hlm
  go_wp2_with fail
  refine (drawPassShares_any A0 c0 bs _ (h0.more (by first | omega | (simp; omega) | simp)) hlm hc0).mono ?_
  rintro e w1 ⟨g1, o1, c4_, vs, N, s, ⟨hg1a, hg1b⟩, hxc, hx12, ⟨hN1, hN8⟩, ⟨hsl, hsu⟩, rfl, ho5_, hb2_⟩
  have o6_ := h0.below hb2_ (by first | omega | (simp; omega) | simp)
  have z7_ := hb2_.size
  have B8_ := (Below.refl w.heap.size w).trans (hb2_.mono (by first | omega | (simp; omega) | simp))
  clear hb2_
  go_wp2_with fail
  refine (implPassShares_any N (some ⟨g1, o1, none⟩) c4_ vs s _ _ _ ho5_.ints (by first | omega | (simp; omega) | simp) (by omega)).mono ?_
  rintro e w9 ⟨A10_, c11_, rfl, ho12_, hb9_⟩
  have o13_ := o6_.below hb9_ (by first | omega | (simp; omega) | simp)
  have o14_ := ho5_.below hb9_ (by first | omega | (simp; omega) | simp)
  have z15_ := hb9_.size
  have B16_ := B8_.trans (hb9_.mono (by first | omega | (simp; omega) | simp))
  clear hb9_
  by_cases h17_ : ((passRow N vs s).length : Int) = 0
  · have h17_b : (((passRow N vs s).length : Int) == 0) = true := by simpa using h17_
    have h17_n : (((passRow N vs s).length : Int) != 0) = false := by simpa using h17_
    have h17_le : ((passRow N vs s).length : Int) ≤ 0 := by omega
    have h17_ge : 0 ≤ ((passRow N vs s).length : Int) := by omega
    have Hh17_ := Lib.hid h17_
    clear h17_
    go_wp2_with fail
    refine (specPassShares_any N (some ⟨g1, o1, none⟩) c4_ vs s _ _ _ o14_.ints (by first | omega | (simp; omega) | simp) (by omega)).mono ?_
    rintro e w18 ⟨A19_, c20_, rfl, ho21_, hb18_⟩
    have o22_ := o13_.below hb18_ (by first | omega | (simp; omega) | simp)
    have o23_ := o14_.below hb18_ (by first | omega | (simp; omega) | simp)
    have o24_ := ho12_.below hb18_ (by first | omega | (simp; omega) | simp)
    have z25_ := hb18_.size
    have B26_ := B16_.trans (hb18_.mono (by first | omega | (simp; omega) | simp))
    clear hb18_
    have h27_ : ((passRow N vs s).length : Int) = 0 := Hh17_.out
    have h27_b : (((passRow N vs s).length : Int) == 0) = true := by simpa using h27_
    have h27_n : (((passRow N vs s).length : Int) != 0) = false := by simpa using h27_
    have h27_le : ((passRow N vs s).length : Int) ≤ 0 := by omega
    have h27_ge : 0 ≤ ((passRow N vs s).length : Int) := by omega
    have Hh27_ := Lib.hid h27_
    clear h27_
    go_wp2_with fail
    refine (alive_any _).mono ?_
    rintro e w28 ⟨rfl, hb28_⟩
    have o29_ := o22_.below hb28_ (by first | omega | (simp; omega) | simp)
    have o30_ := o23_.below hb28_ (by first | omega | (simp; omega) | simp)
    have o31_ := o24_.below hb28_ (by first | omega | (simp; omega) | simp)
    have o32_ := ho21_.below hb28_ (by first | omega | (simp; omega) | simp)
    have z33_ := hb28_.size
    have B34_ := B26_.trans (hb28_.mono (by first | omega | (simp; omega) | simp))
    clear hb28_
    go_wp2
    go_ret
    exact ⟨ret_bool (by first | exact rfl | exact h27_b.trans rfl), B34_⟩
  · have h17_b : (((passRow N vs s).length : Int) == 0) = false := by simpa using h17_
    have h17_n : (((passRow N vs s).length : Int) != 0) = true := by simpa using h17_
    obtain ⟨hvb, hpp⟩ := passRow_none (N := N) (vs := vs) (p := s) (by omega)
    obtain ⟨n, rfl⟩ := vis_nat hvb
    have HVB : Hid (visB (n : Int) vs = true) := hvb
    have hvn := vis_n hvb
    obtain ⟨hn1, hn4, hv6⟩ := hvn
    obtain ⟨hp1, hp2⟩ := pow_bd hn4
    have hpn := pow16 hn4
    obtain ⟨hpn1, hpn2⟩ := hpn
    clear hvb
    have HPP := Lib.hid hpp
    obtain ⟨hs0, hs12⟩ := hpp
    have HLO : Hid ((passRow (n : Int) vs s).length = n) := passRow_length HVB.out HPP.out
    have hlo1 : (passRow (n : Int) vs s).length ≤ n := by have e := HLO.out; omega
    have hlo2 : n ≤ (passRow (n : Int) vs s).length := by have e := HLO.out; omega
    go_wp2_with fail
    refine (implPassShares_any (n : Int) (some ⟨g1, o1, none⟩) c4_ vs (2 * s) _ _ _ o14_.ints (by first | omega | (simp; omega) | simp) (by omega)).mono ?_
    rintro e w18 ⟨A19_, c20_, rfl, ho21_, hb18_⟩
    have o22_ := o13_.below hb18_ (by first | omega | (simp; omega) | simp)
    have o23_ := o14_.below hb18_ (by first | omega | (simp; omega) | simp)
    have o24_ := ho12_.below hb18_ (by first | omega | (simp; omega) | simp)
    have z25_ := hb18_.size
    have B26_ := B16_.trans (hb18_.mono (by first | omega | (simp; omega) | simp))
    clear hb18_
    go_wp2
    go_loopw [8] (fun kk wr => ∃ k : Nat, kk = .int .i64 k ∧ (k ≤ (passRow (n : Int) vs s).length) ∧ Below w.heap.size w wr ∧ w18.heap.size ≤ wr.heap.size ∧ Bytes wr (w.heap.size) A0 bs ∧ Own wr (w.heap.size) (w1.heap.size) (some ⟨g1, o1, none⟩) vs ∧ Own wr (w1.heap.size) (w9.heap.size) A10_ (passRow (n : Int) vs s) ∧ Own wr (w9.heap.size) (w18.heap.size) A19_ (passRow (n : Int) vs (2 * s))) (fun kk _ => (passRow (n : Int) vs s).length - (intOf kk).toNat)
    case atStart => exact ⟨0, rfl, Nat.zero_le _, B26_, (by first | omega | (simp; omega) | simp), o22_, o23_, o24_, ho21_⟩
    case round =>
      obtain ⟨k, rfl, hk, k28_, k29_, k30_, k31_, k32_, k33_⟩ := hrel
      obtain ⟨w27, rfl⟩ : ∃ x, x = wr := ⟨_, rfl⟩
      by_cases hlt0 : k < (passRow (n : Int) vs s).length
      · by_cases h34_ : ((passRow (n : Int) vs (2 * s)).length : Int) > 0
        · have h34_d : decide (((passRow (n : Int) vs (2 * s)).length : Int) > 0) = true := decide_eq_true h34_
          have HP2 : Hid (0 ≤ 2 * s ∧ 2 * s ≤ 12) := (passRow_none (N := (n : Int)) (vs := vs) (p := 2 * s) (by omega)).2
          have hlt1 : (passRow (n : Int) vs (2 * s)).length ≤ n := by rw [passRow_length HVB.out HP2.out]; exact Nat.le_refl _
          have hlt2 : n ≤ (passRow (n : Int) vs (2 * s)).length := by rw [passRow_length HVB.out HP2.out]; exact Nat.le_refl _
          have h35_ : ((passRow (n : Int) vs (2 * s)).length : Int) = ((passRow (n : Int) vs s).length : Int) := by have e := passRow_length HVB.out (p := 2 * s) HP2.out; omega
          have h35_b : (((passRow (n : Int) vs (2 * s)).length : Int) == ((passRow (n : Int) vs s).length : Int)) = true := by simpa using h35_
          have h35_n : (((passRow (n : Int) vs (2 * s)).length : Int) != ((passRow (n : Int) vs s).length : Int)) = false := by simpa using h35_
          have h35_le : ((passRow (n : Int) vs (2 * s)).length : Int) ≤ ((passRow (n : Int) vs s).length : Int) := by omega
          have h35_ge : ((passRow (n : Int) vs s).length : Int) ≤ ((passRow (n : Int) vs (2 * s)).length : Int) := by omega
          have Hh35_ := Lib.hid h35_
          clear h35_
          obtain ⟨b36_, f37_, rfl, b36_l, b36_h, -⟩ := k33_.ints (by omega)
          have c38_ : w27.cell? ⟨b36_, f37_ + k, none⟩ = some (.int .i64 ((passRow (n : Int) vs (2 * s)).getD k 0)) := k33_.ints.at2 k (by first | omega | (simp; omega) | simp)
          have c38_i : (k : Int) < ((passRow (n : Int) vs (2 * s)).length : Int) := by omega
          have c38_j : (0 : Int) ≤ (k : Int) := by omega
          have v39_g := passRow_rg (n : Int) vs (2 * s) k
          obtain ⟨v39_, hv39_⟩ : ∃ v, v = (passRow (n : Int) vs (2 * s)).getD k 0 := ⟨_, rfl⟩
          rw [← hv39_] at c38_ v39_g
          have Hv39_ := Lib.hid hv39_
          clear hv39_
          obtain ⟨v39_g1, v39_g2⟩ := v39_g
          obtain ⟨b40_, f41_, rfl, b40_l, b40_h, -⟩ := k32_.ints (by omega)
          have c42_ : w27.cell? ⟨b40_, f41_ + k, none⟩ = some (.int .i64 ((passRow (n : Int) vs s).getD k 0)) := k32_.ints.at2 k (by first | omega | (simp; omega) | simp)
          have c42_i : (k : Int) < ((passRow (n : Int) vs s).length : Int) := by omega
          have c42_j : (0 : Int) ≤ (k : Int) := by omega
          have v43_g := passRow_rg (n : Int) vs s k
          obtain ⟨v43_, hv43_⟩ : ∃ v, v = (passRow (n : Int) vs s).getD k 0 := ⟨_, rfl⟩
          rw [← hv43_] at c42_ v43_g
          have Hv43_ := Lib.hid hv43_
          clear hv43_
          obtain ⟨v43_g1, v43_g2⟩ := v43_g
          have h44_ : v39_ = (2 * v43_) := by rw [Hv39_.out, Hv43_.out, passRow_at HVB.out HP2.out (by omega), passRow_at HVB.out HPP.out (by omega)]; exact pass_twice hn4 (by omega)
          have h44_b : (v39_ == (2 * v43_)) = true := by simpa using h44_
          have h44_n : (v39_ != (2 * v43_)) = false := by simpa using h44_
          have h44_le : v39_ ≤ (2 * v43_) := by omega
          have h44_ge : (2 * v43_) ≤ v39_ := by omega
          have Hh44_ := Lib.hid h44_
          clear h44_
          have hw45_ : IntKind.i64.wrap (2 * v43_) = (2 * v43_) := IntWalk.i64_in _ (by omega)
          go_wp2
          go_quiet (fail)
          obtain ⟨w46, hw46⟩ : ∃ x, x = w27.drewN nq := ⟨_, rfl⟩
          have hb47_ : Below w27.heap.size w27 w46 := by rw [hw46]; exact below_drewN (Below.refl _ _) _
          rw [← hw46]
          clear hw46
          clear hw45_
          have o49_ := k30_.below hb47_ (by first | omega | (simp; omega) | simp)
          have o50_ := k31_.below hb47_ (by first | omega | (simp; omega) | simp)
          have o51_ := k32_.below hb47_ (by first | omega | (simp; omega) | simp)
          have o52_ := k33_.below hb47_ (by first | omega | (simp; omega) | simp)
          have z53_ := hb47_.size
          have B54_ := k28_.trans (hb47_.mono (by first | omega | (simp; omega) | simp))
          clear hb47_
          go_wp2
          go_roundw
          case rel => exact ⟨k + 1, by go_num, by omega, B54_, (by first | omega | (simp; omega) | simp), o49_, o50_, o51_, o52_⟩
          case measure => simp [intOf] <;> omega
        · have h34_d : decide (((passRow (n : Int) vs (2 * s)).length : Int) > 0) = false := decide_eq_false h34_
          go_wp2_with fail
          refine (alive_any _).mono ?_
          rintro e w35 ⟨rfl, hb35_⟩
          have o36_ := k30_.below hb35_ (by first | omega | (simp; omega) | simp)
          have o37_ := k31_.below hb35_ (by first | omega | (simp; omega) | simp)
          have o38_ := k32_.below hb35_ (by first | omega | (simp; omega) | simp)
          have o39_ := k33_.below hb35_ (by first | omega | (simp; omega) | simp)
          have z40_ := hb35_.size
          have B41_ := k28_.trans (hb35_.mono (by first | omega | (simp; omega) | simp))
          clear hb35_
          by_cases h42_ : (2 * s) > 12
          · have h42_d : decide ((2 * s) > 12) = true := decide_eq_true h42_
            by_cases h43_ : (vs.length : Int) = 6
            · have h43_b : ((vs.length : Int) == 6) = true := by simpa using h43_
              have h43_n : ((vs.length : Int) != 6) = false := by simpa using h43_
              have h43_le : (vs.length : Int) ≤ 6 := by omega
              have h43_ge : 6 ≤ (vs.length : Int) := by omega
              have Hh43_ := Lib.hid h43_
              clear h43_
              go_wp2
              go_ret
              exact ⟨ret_bool (by first | exact rfl | exact h43_b.trans rfl), B41_⟩
            · have h43_b : ((vs.length : Int) == 6) = false := by simpa using h43_
              have h43_n : ((vs.length : Int) != 6) = true := by simpa using h43_
              have o44_ := o36_.below ((Below.refl _ _).alloc (Nat.le_refl _) (.cells #[] 3)) (by first | omega | (simp; omega) | simp)
              have o45_ := o37_.alloc (by first | omega | (simp; omega) | simp) (.cells #[] 3)
              have o46_ := o38_.alloc (by first | omega | (simp; omega) | simp) (.cells #[] 3)
              have o47_ := o39_.alloc (by first | omega | (simp; omega) | simp) (.cells #[] 3)
              have B48_ := B41_.alloc (by first | omega | (simp; omega) | simp) (.cells #[] 3)
              have G49_ : Grow (w35.alloc (.cells #[] 3)) (w35.heap.size) 0 ([] : List Int) := by have e := grow_lit w35 ([] : List Int) (by simp); (try simp only [hsz] at e); exact e
              have l50_ := G49_.lt
              have HL51_ : Hid (([] : List Int).length = 0) := rfl
              go_wp2_with (first | ((at_builtin; (refine append_grLW (by rfl) _ _ (by rfl) (xs := ([] : List Int)) (ys := vs) (by rfl) (by have e := HL51_.out; omega) G49_ (by rfl) (by rfl) (o45_.ints.read) (by omega) ?_; intro g52_ c53_ L58_ w54 HL58_ L58_l L58_u G54_ hC55_ hg56_)); (have o59_ := o44_.chg hC55_ (by first | omega | (simp; omega) | simp) (by omega)); (have o60_ := o45_.chg hC55_ (by first | omega | (simp; omega) | simp) (by omega)); (have o61_ := o46_.chg hC55_ (by first | omega | (simp; omega) | simp) (by omega)); (have o62_ := o47_.chg hC55_ (by first | omega | (simp; omega) | simp) (by omega)); (have z63_ := hC55_.size); (try simp at z63_); (have B64_ := B48_.trans (hC55_.below (by omega) (by first | omega | (simp; omega) | simp))); (clear hC55_); (have l65_ := G54_.lt); (have o66_ := o59_.below ((Below.refl _ _).alloc (Nat.le_refl _) (.cells #[.int .i64 0] 3)) (by first | omega | (simp; omega) | simp)); (have o67_ := o60_.alloc (by first | omega | (simp; omega) | simp) (.cells #[.int .i64 0] 3)); (have o68_ := o61_.alloc (by first | omega | (simp; omega) | simp) (.cells #[.int .i64 0] 3)); (have o69_ := o62_.alloc (by first | omega | (simp; omega) | simp) (.cells #[.int .i64 0] 3)); (have o70_ := G54_.alloc (.cells #[.int .i64 0] 3)); (have B71_ := B64_.alloc (by first | omega | (simp; omega) | simp) (.cells #[.int .i64 0] 3)); (have G72_ : Grow (w54.alloc (.cells #[.int .i64 0] 3)) (w54.heap.size) 1 ([0] : List Int) := by have e := grow_lit w54 ([0] : List Int) (by simp); (try simp only [hsz] at e); exact e); (have l73_ := G72_.lt); (have HL74_ : Hid (([0] : List Int).length = 1) := rfl)) | ((at_builtin; (refine append_grLW (by rfl) _ _ (by rfl) (xs := (([] : List Int) ++ vs)) (ys := ([0] : List Int)) (by rfl) (by have e := HL58_.out; omega) o70_ (by rfl) (by have e := HL74_.out; omega) (G72_.ints.read) (by omega) ?_; intro g75_ c76_ L81_ w77 HL81_ L81_l L81_u G77_ hC78_ hg79_)); (have o82_ := o66_.chg hC78_ (by first | omega | (simp; omega) | simp) (by omega)); (have o83_ := o67_.chg hC78_ (by first | omega | (simp; omega) | simp) (by omega)); (have o84_ := o68_.chg hC78_ (by first | omega | (simp; omega) | simp) (by omega)); (have o85_ := o69_.chg hC78_ (by first | omega | (simp; omega) | simp) (by omega)); (have o86_ := G72_.chg hC78_ (by omega)); (have z87_ := hC78_.size); (try simp at z87_); (have B88_ := B71_.trans (hC78_.below (by omega) (by first | omega | (simp; omega) | simp))); (clear hC78_); (have l89_ := G77_.lt)))
              go_wp2_with fail
              rw [slice_n (A := (some ⟨g75_, 0, none⟩)) (n := L81_) (m := ((([] : List Int) ++ vs) ++ ([0] : List Int)).length) (c := c76_) (by have e := HL81_.out; first | omega | exact e.symm)]
              refine (implPassShares_wide (n := ((([] : List Int) ++ vs) ++ ([0] : List Int)).length) (n : Int) (some ⟨g75_, 0, none⟩) c76_ vs s rfl _ _ _ G77_.ints (by first | omega | (simp; omega) | simp) (by have e := HL81_.out; omega)).mono ?_
              rintro e w90 ⟨A91_, c92_, rfl, ho93_, hb90_⟩
              have o94_ := o82_.below hb90_ (by first | omega | (simp; omega) | simp)
              have o95_ := o83_.below hb90_ (by first | omega | (simp; omega) | simp)
              have o96_ := o84_.below hb90_ (by first | omega | (simp; omega) | simp)
              have o97_ := o85_.below hb90_ (by first | omega | (simp; omega) | simp)
              have o98_ := o86_.below hb90_ (by first | omega | (simp; omega) | simp)
              have o99_ := G77_.below hb90_ (by first | omega | (simp; omega) | simp)
              have z100_ := hb90_.size
              have B101_ := B88_.trans (hb90_.mono (by first | omega | (simp; omega) | simp))
              clear hb90_
              have H102_ : Hid ((passRow (n : Int) (vs ++ [0]) s) = (passRow (n : Int) vs s)) := passRow_wide HVB.out HPP.out (by omega)
              go_wp2_with fail
              refine (sameInts_yes A91_ A10_ c92_ c11_ (passRow (n : Int) (vs ++ [0]) s) (passRow (n : Int) vs s) _ _ _ _ _ ho93_.ints o96_.ints (by have e := passRow_len4 (n : Int) (vs ++ [0]) s; omega) H102_.out).mono ?_
              rintro e w103 ⟨rfl, hb103_⟩
              have o104_ := o94_.below hb103_ (by first | omega | (simp; omega) | simp)
              have o105_ := o95_.below hb103_ (by first | omega | (simp; omega) | simp)
              have o106_ := o96_.below hb103_ (by first | omega | (simp; omega) | simp)
              have o107_ := o97_.below hb103_ (by first | omega | (simp; omega) | simp)
              have o108_ := o98_.below hb103_ (by first | omega | (simp; omega) | simp)
              have o109_ := o99_.below hb103_ (by first | omega | (simp; omega) | simp)
              have o110_ := ho93_.below hb103_ (by first | omega | (simp; omega) | simp)
              have z111_ := hb103_.size
              have B112_ := B101_.trans (hb103_.mono (by first | omega | (simp; omega) | simp))
              clear hb103_
              go_wp2
              go_ret
              exact ⟨ret_bool (by first | exact rfl | exact h43_b.trans rfl), B112_⟩
          · have h42_d : decide ((2 * s) > 12) = false := decide_eq_false h42_
            have h43_ : ((passRow (n : Int) vs (2 * s)).length : Int) = ((passRow (n : Int) vs s).length : Int) := by have e := passRow_length HVB.out (p := 2 * s) ⟨by omega, by omega⟩; omega
            have h43_b : (((passRow (n : Int) vs (2 * s)).length : Int) == ((passRow (n : Int) vs s).length : Int)) = true := by simpa using h43_
            have h43_n : (((passRow (n : Int) vs (2 * s)).length : Int) != ((passRow (n : Int) vs s).length : Int)) = false := by simpa using h43_
            have h43_le : ((passRow (n : Int) vs (2 * s)).length : Int) ≤ ((passRow (n : Int) vs s).length : Int) := by omega
            have h43_ge : ((passRow (n : Int) vs s).length : Int) ≤ ((passRow (n : Int) vs (2 * s)).length : Int) := by omega
            have Hh43_ := Lib.hid h43_
            clear h43_
            by_cases h44_ : (vs.length : Int) = 6
            · have h44_b : ((vs.length : Int) == 6) = true := by simpa using h44_
              have h44_n : ((vs.length : Int) != 6) = false := by simpa using h44_
              have h44_le : (vs.length : Int) ≤ 6 := by omega
              have h44_ge : 6 ≤ (vs.length : Int) := by omega
              have Hh44_ := Lib.hid h44_
              clear h44_
              go_wp2
              go_ret
              exact ⟨ret_bool (by first | exact rfl | exact h44_b.trans rfl), B41_⟩
            · have h44_b : ((vs.length : Int) == 6) = false := by simpa using h44_
              have h44_n : ((vs.length : Int) != 6) = true := by simpa using h44_
              have o45_ := o36_.below ((Below.refl _ _).alloc (Nat.le_refl _) (.cells #[] 3)) (by first | omega | (simp; omega) | simp)
              have o46_ := o37_.alloc (by first | omega | (simp; omega) | simp) (.cells #[] 3)
              have o47_ := o38_.alloc (by first | omega | (simp; omega) | simp) (.cells #[] 3)
              have o48_ := o39_.alloc (by first | omega | (simp; omega) | simp) (.cells #[] 3)
              have B49_ := B41_.alloc (by first | omega | (simp; omega) | simp) (.cells #[] 3)
              have G50_ : Grow (w35.alloc (.cells #[] 3)) (w35.heap.size) 0 ([] : List Int) := by have e := grow_lit w35 ([] : List Int) (by simp); (try simp only [hsz] at e); exact e
              have l51_ := G50_.lt
              have HL52_ : Hid (([] : List Int).length = 0) := rfl
              go_wp2_with (first | ((at_builtin; (refine append_grLW (by rfl) _ _ (by rfl) (xs := ([] : List Int)) (ys := vs) (by rfl) (by have e := HL52_.out; omega) G50_ (by rfl) (by rfl) (o46_.ints.read) (by omega) ?_; intro g53_ c54_ L59_ w55 HL59_ L59_l L59_u G55_ hC56_ hg57_)); (have o60_ := o45_.chg hC56_ (by first | omega | (simp; omega) | simp) (by omega)); (have o61_ := o46_.chg hC56_ (by first | omega | (simp; omega) | simp) (by omega)); (have o62_ := o47_.chg hC56_ (by first | omega | (simp; omega) | simp) (by omega)); (have o63_ := o48_.chg hC56_ (by first | omega | (simp; omega) | simp) (by omega)); (have z64_ := hC56_.size); (try simp at z64_); (have B65_ := B49_.trans (hC56_.below (by omega) (by first | omega | (simp; omega) | simp))); (clear hC56_); (have l66_ := G55_.lt); (have o67_ := o60_.below ((Below.refl _ _).alloc (Nat.le_refl _) (.cells #[.int .i64 0] 3)) (by first | omega | (simp; omega) | simp)); (have o68_ := o61_.alloc (by first | omega | (simp; omega) | simp) (.cells #[.int .i64 0] 3)); (have o69_ := o62_.alloc (by first | omega | (simp; omega) | simp) (.cells #[.int .i64 0] 3)); (have o70_ := o63_.alloc (by first | omega | (simp; omega) | simp) (.cells #[.int .i64 0] 3)); (have o71_ := G55_.alloc (.cells #[.int .i64 0] 3)); (have B72_ := B65_.alloc (by first | omega | (simp; omega) | simp) (.cells #[.int .i64 0] 3)); (have G73_ : Grow (w55.alloc (.cells #[.int .i64 0] 3)) (w55.heap.size) 1 ([0] : List Int) := by have e := grow_lit w55 ([0] : List Int) (by simp); (try simp only [hsz] at e); exact e); (have l74_ := G73_.lt); (have HL75_ : Hid (([0] : List Int).length = 1) := rfl)) | ((at_builtin; (refine append_grLW (by rfl) _ _ (by rfl) (xs := (([] : List Int) ++ vs)) (ys := ([0] : List Int)) (by rfl) (by have e := HL59_.out; omega) o71_ (by rfl) (by have e := HL75_.out; omega) (G73_.ints.read) (by omega) ?_; intro g76_ c77_ L82_ w78 HL82_ L82_l L82_u G78_ hC79_ hg80_)); (have o83_ := o67_.chg hC79_ (by first | omega | (simp; omega) | simp) (by omega)); (have o84_ := o68_.chg hC79_ (by first | omega | (simp; omega) | simp) (by omega)); (have o85_ := o69_.chg hC79_ (by first | omega | (simp; omega) | simp) (by omega)); (have o86_ := o70_.chg hC79_ (by first | omega | (simp; omega) | simp) (by omega)); (have o87_ := G73_.chg hC79_ (by omega)); (have z88_ := hC79_.size); (try simp at z88_); (have B89_ := B72_.trans (hC79_.below (by omega) (by first | omega | (simp; omega) | simp))); (clear hC79_); (have l90_ := G78_.lt)))
              go_wp2_with fail
              rw [slice_n (A := (some ⟨g76_, 0, none⟩)) (n := L82_) (m := ((([] : List Int) ++ vs) ++ ([0] : List Int)).length) (c := c77_) (by have e := HL82_.out; first | omega | exact e.symm)]
              refine (implPassShares_wide (n := ((([] : List Int) ++ vs) ++ ([0] : List Int)).length) (n : Int) (some ⟨g76_, 0, none⟩) c77_ vs s rfl _ _ _ G78_.ints (by first | omega | (simp; omega) | simp) (by have e := HL82_.out; omega)).mono ?_
              rintro e w91 ⟨A92_, c93_, rfl, ho94_, hb91_⟩
              have o95_ := o83_.below hb91_ (by first | omega | (simp; omega) | simp)
              have o96_ := o84_.below hb91_ (by first | omega | (simp; omega) | simp)
              have o97_ := o85_.below hb91_ (by first | omega | (simp; omega) | simp)
              have o98_ := o86_.below hb91_ (by first | omega | (simp; omega) | simp)
              have o99_ := o87_.below hb91_ (by first | omega | (simp; omega) | simp)
              have o100_ := G78_.below hb91_ (by first | omega | (simp; omega) | simp)
              have z101_ := hb91_.size
              have B102_ := B89_.trans (hb91_.mono (by first | omega | (simp; omega) | simp))
              clear hb91_
              have H103_ : Hid ((passRow (n : Int) (vs ++ [0]) s) = (passRow (n : Int) vs s)) := passRow_wide HVB.out HPP.out (by omega)
              go_wp2_with fail
              refine (sameInts_yes A92_ A10_ c93_ c11_ (passRow (n : Int) (vs ++ [0]) s) (passRow (n : Int) vs s) _ _ _ _ _ ho94_.ints o97_.ints (by have e := passRow_len4 (n : Int) (vs ++ [0]) s; omega) H103_.out).mono ?_
              rintro e w104 ⟨rfl, hb104_⟩
              have o105_ := o95_.below hb104_ (by first | omega | (simp; omega) | simp)
              have o106_ := o96_.below hb104_ (by first | omega | (simp; omega) | simp)
              have o107_ := o97_.below hb104_ (by first | omega | (simp; omega) | simp)
              have o108_ := o98_.below hb104_ (by first | omega | (simp; omega) | simp)
              have o109_ := o99_.below hb104_ (by first | omega | (simp; omega) | simp)
              have o110_ := o100_.below hb104_ (by first | omega | (simp; omega) | simp)
              have o111_ := ho94_.below hb104_ (by first | omega | (simp; omega) | simp)
              have z112_ := hb104_.size
              have B113_ := B102_.trans (hb104_.mono (by first | omega | (simp; omega) | simp))
              clear hb104_
              go_wp2
              go_ret
              exact ⟨ret_bool (by first | exact rfl | exact h44_b.trans rfl), B113_⟩
      · go_wp2_with fail
        refine (alive_any _).mono ?_
        rintro e w34 ⟨rfl, hb34_⟩
        have o35_ := k30_.below hb34_ (by first | omega | (simp; omega) | simp)
        have o36_ := k31_.below hb34_ (by first | omega | (simp; omega) | simp)
        have o37_ := k32_.below hb34_ (by first | omega | (simp; omega) | simp)
        have o38_ := k33_.below hb34_ (by first | omega | (simp; omega) | simp)
        have z39_ := hb34_.size
        have B40_ := k28_.trans (hb34_.mono (by first | omega | (simp; omega) | simp))
        clear hb34_
        by_cases h41_ : (2 * s) > 12
        · have h41_d : decide ((2 * s) > 12) = true := decide_eq_true h41_
          by_cases h42_ : (vs.length : Int) = 6
          · have h42_b : ((vs.length : Int) == 6) = true := by simpa using h42_
            have h42_n : ((vs.length : Int) != 6) = false := by simpa using h42_
            have h42_le : (vs.length : Int) ≤ 6 := by omega
            have h42_ge : 6 ≤ (vs.length : Int) := by omega
            have Hh42_ := Lib.hid h42_
            clear h42_
            go_wp2
            go_ret
            exact ⟨ret_bool (by first | exact rfl | exact h42_b.trans rfl), B40_⟩
          · have h42_b : ((vs.length : Int) == 6) = false := by simpa using h42_
            have h42_n : ((vs.length : Int) != 6) = true := by simpa using h42_
            have o43_ := o35_.below ((Below.refl _ _).alloc (Nat.le_refl _) (.cells #[] 3)) (by first | omega | (simp; omega) | simp)
            have o44_ := o36_.alloc (by first | omega | (simp; omega) | simp) (.cells #[] 3)
            have o45_ := o37_.alloc (by first | omega | (simp; omega) | simp) (.cells #[] 3)
            have o46_ := o38_.alloc (by first | omega | (simp; omega) | simp) (.cells #[] 3)
            have B47_ := B40_.alloc (by first | omega | (simp; omega) | simp) (.cells #[] 3)
            have G48_ : Grow (w34.alloc (.cells #[] 3)) (w34.heap.size) 0 ([] : List Int) := by have e := grow_lit w34 ([] : List Int) (by simp); (try simp only [hsz] at e); exact e
            have l49_ := G48_.lt
            have HL50_ : Hid (([] : List Int).length = 0) := rfl
            go_wp2_with (first | ((at_builtin; (refine append_grLW (by rfl) _ _ (by rfl) (xs := ([] : List Int)) (ys := vs) (by rfl) (by have e := HL50_.out; omega) G48_ (by rfl) (by rfl) (o44_.ints.read) (by omega) ?_; intro g51_ c52_ L57_ w53 HL57_ L57_l L57_u G53_ hC54_ hg55_)); (have o58_ := o43_.chg hC54_ (by first | omega | (simp; omega) | simp) (by omega)); (have o59_ := o44_.chg hC54_ (by first | omega | (simp; omega) | simp) (by omega)); (have o60_ := o45_.chg hC54_ (by first | omega | (simp; omega) | simp) (by omega)); (have o61_ := o46_.chg hC54_ (by first | omega | (simp; omega) | simp) (by omega)); (have z62_ := hC54_.size); (try simp at z62_); (have B63_ := B47_.trans (hC54_.below (by omega) (by first | omega | (simp; omega) | simp))); (clear hC54_); (have l64_ := G53_.lt); (have o65_ := o58_.below ((Below.refl _ _).alloc (Nat.le_refl _) (.cells #[.int .i64 0] 3)) (by first | omega | (simp; omega) | simp)); (have o66_ := o59_.alloc (by first | omega | (simp; omega) | simp) (.cells #[.int .i64 0] 3)); (have o67_ := o60_.alloc (by first | omega | (simp; omega) | simp) (.cells #[.int .i64 0] 3)); (have o68_ := o61_.alloc (by first | omega | (simp; omega) | simp) (.cells #[.int .i64 0] 3)); (have o69_ := G53_.alloc (.cells #[.int .i64 0] 3)); (have B70_ := B63_.alloc (by first | omega | (simp; omega) | simp) (.cells #[.int .i64 0] 3)); (have G71_ : Grow (w53.alloc (.cells #[.int .i64 0] 3)) (w53.heap.size) 1 ([0] : List Int) := by have e := grow_lit w53 ([0] : List Int) (by simp); (try simp only [hsz] at e); exact e); (have l72_ := G71_.lt); (have HL73_ : Hid (([0] : List Int).length = 1) := rfl)) | ((at_builtin; (refine append_grLW (by rfl) _ _ (by rfl) (xs := (([] : List Int) ++ vs)) (ys := ([0] : List Int)) (by rfl) (by have e := HL57_.out; omega) o69_ (by rfl) (by have e := HL73_.out; omega) (G71_.ints.read) (by omega) ?_; intro g74_ c75_ L80_ w76 HL80_ L80_l L80_u G76_ hC77_ hg78_)); (have o81_ := o65_.chg hC77_ (by first | omega | (simp; omega) | simp) (by omega)); (have o82_ := o66_.chg hC77_ (by first | omega | (simp; omega) | simp) (by omega)); (have o83_ := o67_.chg hC77_ (by first | omega | (simp; omega) | simp) (by omega)); (have o84_ := o68_.chg hC77_ (by first | omega | (simp; omega) | simp) (by omega)); (have o85_ := G71_.chg hC77_ (by omega)); (have z86_ := hC77_.size); (try simp at z86_); (have B87_ := B70_.trans (hC77_.below (by omega) (by first | omega | (simp; omega) | simp))); (clear hC77_); (have l88_ := G76_.lt)))
            go_wp2_with fail
            rw [slice_n (A := (some ⟨g74_, 0, none⟩)) (n := L80_) (m := ((([] : List Int) ++ vs) ++ ([0] : List Int)).length) (c := c75_) (by have e := HL80_.out; first | omega | exact e.symm)]
            refine (implPassShares_wide (n := ((([] : List Int) ++ vs) ++ ([0] : List Int)).length) (n : Int) (some ⟨g74_, 0, none⟩) c75_ vs s rfl _ _ _ G76_.ints (by first | omega | (simp; omega) | simp) (by have e := HL80_.out; omega)).mono ?_
            rintro e w89 ⟨A90_, c91_, rfl, ho92_, hb89_⟩
            have o93_ := o81_.below hb89_ (by first | omega | (simp; omega) | simp)
            have o94_ := o82_.below hb89_ (by first | omega | (simp; omega) | simp)
            have o95_ := o83_.below hb89_ (by first | omega | (simp; omega) | simp)
            have o96_ := o84_.below hb89_ (by first | omega | (simp; omega) | simp)
            have o97_ := o85_.below hb89_ (by first | omega | (simp; omega) | simp)
            have o98_ := G76_.below hb89_ (by first | omega | (simp; omega) | simp)
            have z99_ := hb89_.size
            have B100_ := B87_.trans (hb89_.mono (by first | omega | (simp; omega) | simp))
            clear hb89_
            have H101_ : Hid ((passRow (n : Int) (vs ++ [0]) s) = (passRow (n : Int) vs s)) := passRow_wide HVB.out HPP.out (by omega)
            go_wp2_with fail
            refine (sameInts_yes A90_ A10_ c91_ c11_ (passRow (n : Int) (vs ++ [0]) s) (passRow (n : Int) vs s) _ _ _ _ _ ho92_.ints o95_.ints (by have e := passRow_len4 (n : Int) (vs ++ [0]) s; omega) H101_.out).mono ?_
            rintro e w102 ⟨rfl, hb102_⟩
            have o103_ := o93_.below hb102_ (by first | omega | (simp; omega) | simp)
            have o104_ := o94_.below hb102_ (by first | omega | (simp; omega) | simp)
            have o105_ := o95_.below hb102_ (by first | omega | (simp; omega) | simp)
            have o106_ := o96_.below hb102_ (by first | omega | (simp; omega) | simp)
            have o107_ := o97_.below hb102_ (by first | omega | (simp; omega) | simp)
            have o108_ := o98_.below hb102_ (by first | omega | (simp; omega) | simp)
            have o109_ := ho92_.below hb102_ (by first | omega | (simp; omega) | simp)
            have z110_ := hb102_.size
            have B111_ := B100_.trans (hb102_.mono (by first | omega | (simp; omega) | simp))
            clear hb102_
            go_wp2
            go_ret
            exact ⟨ret_bool (by first | exact rfl | exact h42_b.trans rfl), B111_⟩
        · have h41_d : decide ((2 * s) > 12) = false := decide_eq_false h41_
          have h42_ : ((passRow (n : Int) vs (2 * s)).length : Int) = ((passRow (n : Int) vs s).length : Int) := by have e := passRow_length HVB.out (p := 2 * s) ⟨by omega, by omega⟩; omega
          have h42_b : (((passRow (n : Int) vs (2 * s)).length : Int) == ((passRow (n : Int) vs s).length : Int)) = true := by simpa using h42_
          have h42_n : (((passRow (n : Int) vs (2 * s)).length : Int) != ((passRow (n : Int) vs s).length : Int)) = false := by simpa using h42_
          have h42_le : ((passRow (n : Int) vs (2 * s)).length : Int) ≤ ((passRow (n : Int) vs s).length : Int) := by omega
          have h42_ge : ((passRow (n : Int) vs s).length : Int) ≤ ((passRow (n : Int) vs (2 * s)).length : Int) := by omega
          have Hh42_ := Lib.hid h42_
          clear h42_
          by_cases h43_ : (vs.length : Int) = 6
          · have h43_b : ((vs.length : Int) == 6) = true := by simpa using h43_
            have h43_n : ((vs.length : Int) != 6) = false := by simpa using h43_
            have h43_le : (vs.length : Int) ≤ 6 := by omega
            have h43_ge : 6 ≤ (vs.length : Int) := by omega
            have Hh43_ := Lib.hid h43_
            clear h43_
            go_wp2
            go_ret
            exact ⟨ret_bool (by first | exact rfl | exact h43_b.trans rfl), B40_⟩
          · have h43_b : ((vs.length : Int) == 6) = false := by simpa using h43_
            have h43_n : ((vs.length : Int) != 6) = true := by simpa using h43_
            have o44_ := o35_.below ((Below.refl _ _).alloc (Nat.le_refl _) (.cells #[] 3)) (by first | omega | (simp; omega) | simp)
            have o45_ := o36_.alloc (by first | omega | (simp; omega) | simp) (.cells #[] 3)
            have o46_ := o37_.alloc (by first | omega | (simp; omega) | simp) (.cells #[] 3)
            have o47_ := o38_.alloc (by first | omega | (simp; omega) | simp) (.cells #[] 3)
            have B48_ := B40_.alloc (by first | omega | (simp; omega) | simp) (.cells #[] 3)
            have G49_ : Grow (w34.alloc (.cells #[] 3)) (w34.heap.size) 0 ([] : List Int) := by have e := grow_lit w34 ([] : List Int) (by simp); (try simp only [hsz] at e); exact e
            have l50_ := G49_.lt
            have HL51_ : Hid (([] : List Int).length = 0) := rfl
            go_wp2_with (first | ((at_builtin; (refine append_grLW (by rfl) _ _ (by rfl) (xs := ([] : List Int)) (ys := vs) (by rfl) (by have e := HL51_.out; omega) G49_ (by rfl) (by rfl) (o45_.ints.read) (by omega) ?_; intro g52_ c53_ L58_ w54 HL58_ L58_l L58_u G54_ hC55_ hg56_)); (have o59_ := o44_.chg hC55_ (by first | omega | (simp; omega) | simp) (by omega)); (have o60_ := o45_.chg hC55_ (by first | omega | (simp; omega) | simp) (by omega)); (have o61_ := o46_.chg hC55_ (by first | omega | (simp; omega) | simp) (by omega)); (have o62_ := o47_.chg hC55_ (by first | omega | (simp; omega) | simp) (by omega)); (have z63_ := hC55_.size); (try simp at z63_); (have B64_ := B48_.trans (hC55_.below (by omega) (by first | omega | (simp; omega) | simp))); (clear hC55_); (have l65_ := G54_.lt); (have o66_ := o59_.below ((Below.refl _ _).alloc (Nat.le_refl _) (.cells #[.int .i64 0] 3)) (by first | omega | (simp; omega) | simp)); (have o67_ := o60_.alloc (by first | omega | (simp; omega) | simp) (.cells #[.int .i64 0] 3)); (have o68_ := o61_.alloc (by first | omega | (simp; omega) | simp) (.cells #[.int .i64 0] 3)); (have o69_ := o62_.alloc (by first | omega | (simp; omega) | simp) (.cells #[.int .i64 0] 3)); (have o70_ := G54_.alloc (.cells #[.int .i64 0] 3)); (have B71_ := B64_.alloc (by first | omega | (simp; omega) | simp) (.cells #[.int .i64 0] 3)); (have G72_ : Grow (w54.alloc (.cells #[.int .i64 0] 3)) (w54.heap.size) 1 ([0] : List Int) := by have e := grow_lit w54 ([0] : List Int) (by simp); (try simp only [hsz] at e); exact e); (have l73_ := G72_.lt); (have HL74_ : Hid (([0] : List Int).length = 1) := rfl)) | ((at_builtin; (refine append_grLW (by rfl) _ _ (by rfl) (xs := (([] : List Int) ++ vs)) (ys := ([0] : List Int)) (by rfl) (by have e := HL58_.out; omega) o70_ (by rfl) (by have e := HL74_.out; omega) (G72_.ints.read) (by omega) ?_; intro g75_ c76_ L81_ w77 HL81_ L81_l L81_u G77_ hC78_ hg79_)); (have o82_ := o66_.chg hC78_ (by first | omega | (simp; omega) | simp) (by omega)); (have o83_ := o67_.chg hC78_ (by first | omega | (simp; omega) | simp) (by omega)); (have o84_ := o68_.chg hC78_ (by first | omega | (simp; omega) | simp) (by omega)); (have o85_ := o69_.chg hC78_ (by first | omega | (simp; omega) | simp) (by omega)); (have o86_ := G72_.chg hC78_ (by omega)); (have z87_ := hC78_.size); (try simp at z87_); (have B88_ := B71_.trans (hC78_.below (by omega) (by first | omega | (simp; omega) | simp))); (clear hC78_); (have l89_ := G77_.lt)))
            go_wp2_with fail
            rw [slice_n (A := (some ⟨g75_, 0, none⟩)) (n := L81_) (m := ((([] : List Int) ++ vs) ++ ([0] : List Int)).length) (c := c76_) (by have e := HL81_.out; first | omega | exact e.symm)]
            refine (implPassShares_wide (n := ((([] : List Int) ++ vs) ++ ([0] : List Int)).length) (n : Int) (some ⟨g75_, 0, none⟩) c76_ vs s rfl _ _ _ G77_.ints (by first | omega | (simp; omega) | simp) (by have e := HL81_.out; omega)).mono ?_
            rintro e w90 ⟨A91_, c92_, rfl, ho93_, hb90_⟩
            have o94_ := o82_.below hb90_ (by first | omega | (simp; omega) | simp)
            have o95_ := o83_.below hb90_ (by first | omega | (simp; omega) | simp)
            have o96_ := o84_.below hb90_ (by first | omega | (simp; omega) | simp)
            have o97_ := o85_.below hb90_ (by first | omega | (simp; omega) | simp)
            have o98_ := o86_.below hb90_ (by first | omega | (simp; omega) | simp)
            have o99_ := G77_.below hb90_ (by first | omega | (simp; omega) | simp)
            have z100_ := hb90_.size
            have B101_ := B88_.trans (hb90_.mono (by first | omega | (simp; omega) | simp))
            clear hb90_
            have H102_ : Hid ((passRow (n : Int) (vs ++ [0]) s) = (passRow (n : Int) vs s)) := passRow_wide HVB.out HPP.out (by omega)
            go_wp2_with fail
            refine (sameInts_yes A91_ A10_ c92_ c11_ (passRow (n : Int) (vs ++ [0]) s) (passRow (n : Int) vs s) _ _ _ _ _ ho93_.ints o96_.ints (by have e := passRow_len4 (n : Int) (vs ++ [0]) s; omega) H102_.out).mono ?_
            rintro e w103 ⟨rfl, hb103_⟩
            have o104_ := o94_.below hb103_ (by first | omega | (simp; omega) | simp)
            have o105_ := o95_.below hb103_ (by first | omega | (simp; omega) | simp)
            have o106_ := o96_.below hb103_ (by first | omega | (simp; omega) | simp)
            have o107_ := o97_.below hb103_ (by first | omega | (simp; omega) | simp)
            have o108_ := o98_.below hb103_ (by first | omega | (simp; omega) | simp)
            have o109_ := o99_.below hb103_ (by first | omega | (simp; omega) | simp)
            have o110_ := ho93_.below hb103_ (by first | omega | (simp; omega) | simp)
            have z111_ := hb103_.size
            have B112_ := B101_.trans (hb103_.mono (by first | omega | (simp; omega) | simp))
            clear hb103_
            go_wp2
            go_ret
            exact ⟨ret_bool (by first | exact rfl | exact h43_b.trans rfl), B112_⟩

set_option maxRecDepth 10000 in
set_option maxHeartbeats 400000 in
theorem fnPassPrice_big (A0 : Option Addr) (c0 : Nat) (bs : List Int) (w : World) (hl : ¬ bs.length ≤ 1048576) (hm : bs.length ≤ 9223372036854775807) :
    Calls Try.prog 7 #[.slice A0 bs.length c0] w fun e w' => e = .returned (.bool true) ∧ Below w.heap.size w w' := by
  go_enter Try.func7, Try.ntmps7
  go_wp2
  go_ret
  exact ⟨rfl, Below.refl _ _⟩

theorem fnPassPrice_all (A0 : Option Addr) (c0 : Nat) (bs : List Int) (w : World) (h0 : Bytes w w.heap.size A0 bs) (hm : bs.length ≤ 9223372036854775807) (hc0 : bs.length ≤ c0) :
    Calls Try.prog 7 #[.slice A0 bs.length c0] w fun e w' => e = .returned (.bool true) ∧ Below w.heap.size w w' := by
  by_cases hl : bs.length ≤ 1048576
  · exact fnPassPrice_walk A0 c0 bs w h0 hl hc0
  · exact fnPassPrice_big A0 c0 bs w hl hm

end Go.Proofs.Ytdbohnaohinieaa
