/-
  The law of longer runways returns true for every code, and writes nothing that was there. No condition.
-/
import Derived.Test.YtadphfiikkfjaaaGA
import Derived.Test.YtadphfiikkfjaaaDraw10
import Derived.Test.YtadphfiikkfjaaaRunL
import Derived.Test.YtadphfiikkfjaaaGame10I
import Derived.Test.YtadphfiikkfjaaaGC
import Derived.Test.YtadphfiikkfjaaaRunM
import Derived.Test.YtadphfiikkfjaaaFx
import Derived.Deep.RegionHeld3
namespace Go.Proofs.Ytadphfiikkfjaaa
open Go.RowKit

set_option maxRecDepth 10000 in
set_option maxHeartbeats 2000000 in
theorem fnRunwayLonger_walk (A0 : Option Addr) (c0 : Nat) (bs : List Int) (w : World) (h0 : Bytes w w.heap.size A0 bs) (hl : bs.length ≤ 1048576) (hc0 : bs.length ≤ c0) :
    Calls Try.prog 8 #[.slice A0 bs.length c0] w fun e w' => e = .returned (.bool true) ∧ Below w.heap.size w w' := by
  have hlm : bs.length ≤ 9223372036854775807 := by omega
  go_enter Try.func8, Try.ntmps8
  have Htrue : Hid True := trivial
  have hc0u := hc0
  have h0u := h0
  have hlmu := hlm
  go_wp2_with fail
  refine (drawRunwayShares_any A0 c0 bs _ (h0.more (by first | omega | (simp; omega) | simp)) hlm hc0).mono ?_
  rintro e w1 ⟨A3_, c4_, xs, hx8, rfl, ho5_, hb2_⟩
  have o6_ := h0.below hb2_ (by first | omega | (simp; omega) | simp)
  have z7_ := hb2_.size
  have B8_ := (Below.refl w.heap.size w).trans (hb2_.mono (by first | omega | (simp; omega) | simp))
  clear hb2_
  go_wp2_with fail
  refine (implRunwayShares_any A3_ c4_ xs _ _ _ ho5_.ints (by first | omega | (simp; omega) | simp) (by omega)).mono ?_
  rintro e w9 ⟨A10_, c11_, rfl, ho12_, hb9_⟩
  have o13_ := o6_.below hb9_ (by first | omega | (simp; omega) | simp)
  have o14_ := ho5_.below hb9_ (by first | omega | (simp; omega) | simp)
  have z15_ := hb9_.size
  have B16_ := B8_.trans (hb9_.mono (by first | omega | (simp; omega) | simp))
  clear hb9_
  by_cases h17_ : ((sharesRow xs).length : Int) = 0
  · have h17_b : (((sharesRow xs).length : Int) == 0) = true := by simpa using h17_
    have h17_n : (((sharesRow xs).length : Int) != 0) = false := by simpa using h17_
    have h17_le : ((sharesRow xs).length : Int) ≤ 0 := by omega
    have h17_ge : 0 ≤ ((sharesRow xs).length : Int) := by omega
    have Hh17_ := Lib.hid h17_
    clear h17_
    go_wp2_with fail
    refine (specRunwayShares_any A3_ c4_ xs _ _ _ o14_.ints (by first | omega | (simp; omega) | simp) (by omega)).mono ?_
    rintro e w18 ⟨A19_, c20_, rfl, ho21_, hb18_⟩
    have o22_ := o13_.below hb18_ (by first | omega | (simp; omega) | simp)
    have o23_ := o14_.below hb18_ (by first | omega | (simp; omega) | simp)
    have o24_ := ho12_.below hb18_ (by first | omega | (simp; omega) | simp)
    have z25_ := hb18_.size
    have B26_ := B16_.trans (hb18_.mono (by first | omega | (simp; omega) | simp))
    clear hb18_
    have h27_ : ((sharesRow xs).length : Int) = 0 := Hh17_.out
    have h27_b : (((sharesRow xs).length : Int) == 0) = true := by simpa using h27_
    have h27_n : (((sharesRow xs).length : Int) != 0) = false := by simpa using h27_
    have h27_le : ((sharesRow xs).length : Int) ≤ 0 := by omega
    have h27_ge : 0 ≤ ((sharesRow xs).length : Int) := by omega
    have Hh27_ := Lib.hid h27_
    clear h27_
    go_wp2_with fail
    refine (alive_any _).mono ?_
    rintro e w28 ⟨rfl, hb28_⟩
    have o29_ := o22_.below hb28_ (by first | omega | (simp; omega) | simp)
    have o30_ := o23_.below hb28_ (by first | omega | (simp; omega) | simp)
    have o31_ := o24_.below hb28_ (by first | omega | (simp; omega) | simp)
    have o32_ := ho21_.below hb28_ (by first | omega | (simp; omega) | simp)
    have z33_ := hb28_.size
    have B34_ := B26_.trans (hb28_.mono (by first | omega | (simp; omega) | simp))
    clear hb28_
    go_wp2
    go_ret
    exact ⟨ret_bool (by first | exact rfl | exact h27_b.trans rfl), B34_⟩
  · have h17_b : (((sharesRow xs).length : Int) == 0) = false := by simpa using h17_
    have h17_n : (((sharesRow xs).length : Int) != 0) = true := by simpa using h17_
    have HNB : Hid (needB xs = true) := sharesRow_some (xs := xs) (by omega)
    have hbd := need_bd HNB.out
    obtain ⟨hx1, hx4⟩ := hbd
    obtain ⟨hp1, hp2⟩ := pow_bd hx4
    have HRW : Hid (sharesRow xs = shareR xs) := sharesRow_yes HNB.out
    have HLO : Hid ((sharesRow xs).length = xs.length) := by show _ = _; rw [HRW.out, shareR_length]
    have hlo1 : (sharesRow xs).length ≤ xs.length := by have e := HLO.out; omega
    have hlo2 : xs.length ≤ (sharesRow xs).length := by have e := HLO.out; omega
    go_wp2
    go_loopw [5, 6] (fun ff kk wr => ∃ k : Nat, ∃ f : Nat, ff = .int .i64 f ∧ kk = .int .i64 k ∧ (k ≤ xs.length) ∧ (f < xs.length) ∧ (Top xs f k) ∧ Below w.heap.size w wr ∧ w9.heap.size ≤ wr.heap.size ∧ Bytes wr (w.heap.size) A0 bs ∧ Own wr (w.heap.size) (w1.heap.size) A3_ xs ∧ Own wr (w1.heap.size) (w9.heap.size) A10_ (sharesRow xs)) (fun ff kk _ => xs.length - (intOf kk).toNat)
    case atStart => exact ⟨0, 0, rfl, rfl, Nat.zero_le _, by omega, Top.zero xs 0, B16_, (by first | omega | (simp; omega) | simp), o13_, o14_, ho12_⟩
    case round =>
      obtain ⟨k, f, rfl, rfl, hk, hff, htp, k19_, k20_, k21_, k22_, k23_⟩ := hrel
      obtain ⟨w18, rfl⟩ : ∃ x, x = wr := ⟨_, rfl⟩
      have HTP := Lib.hid htp
      clear htp
      by_cases hlt0 : k < xs.length
      · obtain ⟨b24_, f25_, rfl, b24_l, b24_h, -⟩ := k22_.ints (by omega)
        have c26_ : w18.cell? ⟨b24_, f25_ + k, none⟩ = some (.int .i64 (xs.getD k 0)) := k22_.ints.at2 k (by first | omega | (simp; omega) | simp)
        have c26_i : (k : Int) < (xs.length : Int) := by omega
        have c26_j : (0 : Int) ≤ (k : Int) := by omega
        have v27_g := need_rg HNB.out k
        obtain ⟨v27_, hv27_⟩ : ∃ v, v = xs.getD k 0 := ⟨_, rfl⟩
        rw [← hv27_] at c26_ v27_g
        have Hv27_ := Lib.hid hv27_
        clear hv27_
        obtain ⟨v27_g1, v27_g2⟩ := v27_g
        have c28_ : w18.cell? ⟨b24_, f25_ + f, none⟩ = some (.int .i64 (xs.getD f 0)) := k22_.ints.at2 f (by first | omega | (simp; omega) | simp)
        have c28_i : (f : Int) < (xs.length : Int) := by omega
        have c28_j : (0 : Int) ≤ (f : Int) := by omega
        have v29_g := need_rg HNB.out f
        obtain ⟨v29_, hv29_⟩ : ∃ v, v = xs.getD f 0 := ⟨_, rfl⟩
        rw [← hv29_] at c28_ v29_g
        have Hv29_ := Lib.hid hv29_
        clear hv29_
        obtain ⟨v29_g1, v29_g2⟩ := v29_g
        go_wp2
        go_quiet (fail)
        obtain ⟨w30, hw30⟩ : ∃ x, x = w18.drewN nq := ⟨_, rfl⟩
        have hb31_ : Below w18.heap.size w18 w30 := by rw [hw30]; exact below_drewN (Below.refl _ _) _
        rw [← hw30]
        clear hw30
        have o33_ := k21_.below hb31_ (by first | omega | (simp; omega) | simp)
        have o34_ := k22_.below hb31_ (by first | omega | (simp; omega) | simp)
        have o35_ := k23_.below hb31_ (by first | omega | (simp; omega) | simp)
        have z36_ := hb31_.size
        have B37_ := k19_.trans (hb31_.mono (by first | omega | (simp; omega) | simp))
        clear hb31_
        by_cases h38_ : v27_ > v29_
        · have h38_d : decide (v27_ > v29_) = true := decide_eq_true h38_
          go_wp2
          go_roundw
          case rel => exact ⟨k + 1, k, by go_num, by go_num, by omega, by omega, HTP.out.turn Hv27_.out Hv29_.out h38_, B37_, (by first | omega | (simp; omega) | simp), o33_, o34_, o35_⟩
          case measure => simp [intOf] <;> omega
        · have h38_d : decide (v27_ > v29_) = false := decide_eq_false h38_
          go_wp2
          go_roundw
          case rel => exact ⟨k + 1, f, by go_num, by go_num, by omega, by omega, HTP.out.keep Hv27_.out Hv29_.out h38_, B37_, (by first | omega | (simp; omega) | simp), o33_, o34_, o35_⟩
          case measure => simp [intOf] <;> omega
      · obtain rfl : k = xs.length := by omega
        have o24_ := k21_.below ((Below.refl _ _).alloc (Nat.le_refl _) (.cells #[] 3)) (by first | omega | (simp; omega) | simp)
        have o25_ := k22_.alloc (by first | omega | (simp; omega) | simp) (.cells #[] 3)
        have o26_ := k23_.alloc (by first | omega | (simp; omega) | simp) (.cells #[] 3)
        have B27_ := k19_.alloc (by first | omega | (simp; omega) | simp) (.cells #[] 3)
        have G28_ : Grow (w18.alloc (.cells #[] 3)) (w18.heap.size) 0 ([] : List Int) := by have e := grow_lit w18 ([] : List Int) (by simp); (try simp only [hsz] at e); exact e
        have l29_ := G28_.lt
        have HL30_ : Hid (([] : List Int).length = 0) := rfl
        obtain ⟨b31_, f32_, rfl, b31_l, b31_h, -⟩ := o25_.ints (by omega)
        go_upto_region 14 with (at_builtin; (refine append_grL (by rfl) _ _ (by rfl) (xs := ([] : List Int)) (ys := xs) (by rfl) (by have e := HL30_.out; omega) G28_ (by rfl) (by rfl) (o25_.ints.read) (by omega) ?_; intro g33_ c34_ L39_ w35 HL39_ L39_l L39_u G35_ hC36_ hg37_))
        have o40_ := o24_.chg hC36_ (by first | omega | (simp; omega) | simp) (by omega)
        have o41_ := o25_.chg hC36_ (by first | omega | (simp; omega) | simp) (by omega)
        have o42_ := o26_.chg hC36_ (by first | omega | (simp; omega) | simp) (by omega)
        have z43_ := hC36_.size
        try simp at z43_
        have B44_ := B27_.trans (hC36_.below (by omega) (by first | omega | (simp; omega) | simp))
        clear hC36_
        have l45_ := G35_.lt
        have G46_ : Grow w35 g33_ c34_ xs := by have e := G35_; rw [List.nil_append] at e; exact e
        rw [slice_n (A := (some ⟨g33_, 0, none⟩)) (n := L39_) (m := xs.length) (c := c34_) (by have e := HL39_.out; rw [List.nil_append] at e; first | omega | exact e.symm)]
        have c47_ : w35.cell? ⟨g33_, f, none⟩ = some (.int .i64 (xs.getD f 0)) := G46_.at_ f (by omega)
        have c47_i : (f : Int) < (xs.length : Int) := by omega
        have c47_j : (0 : Int) ≤ (f : Int) := by omega
        have v48_g := need_rg HNB.out f
        obtain ⟨v48_, hv48_⟩ : ∃ v, v = xs.getD f 0 := ⟨_, rfl⟩
        rw [← hv48_] at c47_ v48_g
        have Hv48_ := Lib.hid hv48_
        clear hv48_
        obtain ⟨v48_g1, v48_g2⟩ := v48_g
        have c50_ := G46_.at_ f (by omega)
        have c50_f := G46_.soft f (by omega)
        have c50_i : (f : Int) < (xs.length : Int) := by omega
        have c50_j : (0 : Int) ≤ (f : Int) := by omega
        clear c50_
        have hC49_ := Chg.setCell (lo := g33_) (hi := g33_ + 1) w35 (p := ⟨g33_, f, none⟩) ⟨Nat.le_refl _, Nat.lt_succ_self _⟩ (.int .i64 (v48_ + 1))
        have G51_ := G46_.store f (v48_ + 1)
        have o52_ := o40_.chg hC49_ (by first | omega | (simp; omega) | simp) (by omega)
        have o53_ := o41_.chg hC49_ (by first | omega | (simp; omega) | simp) (by omega)
        have o54_ := o42_.chg hC49_ (by first | omega | (simp; omega) | simp) (by omega)
        have z55_ := hC49_.size
        try simp at z55_
        have B56_ := B44_.trans (hC49_.below (by omega) (by first | omega | (simp; omega) | simp))
        clear hC49_
        go_wp2_with fail
        refine (implRunwayShares_len (n := xs.length) (some ⟨g33_, 0, none⟩) c34_ (xs.set f (v48_ + 1)) List.length_set _ _ _ G51_.ints (by first | omega | (simp; omega) | simp) (by omega)).mono ?_
        rintro e w57 ⟨A58_, c59_, rfl, ho60_, hb57_⟩
        have ho60_ : Own w57 (w35.heap.size) w57.heap.size A58_ (sharesRow (xs.set f (v48_ + 1))) := ho60_.more (by simp) (Nat.le_refl _)
        have o61_ := o52_.below hb57_ (by first | omega | (simp; omega) | simp)
        have o62_ := o53_.below hb57_ (by first | omega | (simp; omega) | simp)
        have o63_ := o54_.below hb57_ (by first | omega | (simp; omega) | simp)
        have o64_ := G51_.below hb57_ (by first | omega | (simp; omega) | simp)
        have z65_ := hb57_.size
        try simp at z65_
        have B66_ := B56_.trans (hb57_.mono (by first | omega | (simp; omega) | simp))
        clear hb57_
        by_cases h67_ : ((sharesRow (xs.set f (v48_ + 1))).length : Int) = 0
        · have h67_b : (((sharesRow (xs.set f (v48_ + 1))).length : Int) == 0) = true := by simpa using h67_
          have h67_n : (((sharesRow (xs.set f (v48_ + 1))).length : Int) != 0) = false := by simpa using h67_
          have h67_le : ((sharesRow (xs.set f (v48_ + 1))).length : Int) ≤ 0 := by omega
          have h67_ge : 0 ≤ ((sharesRow (xs.set f (v48_ + 1))).length : Int) := by omega
          have Hh67_ := Lib.hid h67_
          clear h67_
          have H68_ : Hid (needB (xs.set f (v48_ + 1)) = false) := sharesRow_none (by omega)
          go_wp2_with fail
          refine (implNeedsOk_len (n := xs.length) (some ⟨g33_, 0, none⟩) c34_ (xs.set f (v48_ + 1)) List.length_set _ _ _ o64_.ints (by first | omega | (simp; omega) | simp) (by omega)).mono ?_
          rintro e w69 ⟨he, hb69_⟩
          rw [H68_.out] at he
          subst he
          have o70_ := o61_.below hb69_ (by first | omega | (simp; omega) | simp)
          have o71_ := o62_.below hb69_ (by first | omega | (simp; omega) | simp)
          have o72_ := o63_.below hb69_ (by first | omega | (simp; omega) | simp)
          have o73_ := o64_.below hb69_ (by first | omega | (simp; omega) | simp)
          have o74_ := ho60_.below hb69_ (by first | omega | (simp; omega) | simp)
          have z75_ := hb69_.size
          have B76_ := B66_.trans (hb69_.mono (by first | omega | (simp; omega) | simp))
          clear hb69_
          go_wp2_with fail
          refine (alive_any _).mono ?_
          rintro e w77 ⟨rfl, hb77_⟩
          have o78_ := o70_.below hb77_ (by first | omega | (simp; omega) | simp)
          have o79_ := o71_.below hb77_ (by first | omega | (simp; omega) | simp)
          have o80_ := o72_.below hb77_ (by first | omega | (simp; omega) | simp)
          have o81_ := o73_.below hb77_ (by first | omega | (simp; omega) | simp)
          have o82_ := o74_.below hb77_ (by first | omega | (simp; omega) | simp)
          have z83_ := hb77_.size
          have B84_ := B76_.trans (hb77_.mono (by first | omega | (simp; omega) | simp))
          clear hb77_
          go_wp2
          go_ret
          exact ⟨ret_bool (by first | exact rfl | exact h67_b.trans rfl), B84_⟩
        · have h67_b : (((sharesRow (xs.set f (v48_ + 1))).length : Int) == 0) = false := by simpa using h67_
          have h67_n : (((sharesRow (xs.set f (v48_ + 1))).length : Int) != 0) = true := by simpa using h67_
          have HNG : Hid (needB (xs.set f (v48_ + 1)) = true) := sharesRow_some (by omega)
          have HLG : Hid ((sharesRow (xs.set f (v48_ + 1))).length = xs.length) := by show _ = _; rw [sharesRow_yes HNG.out, shareR_length, List.length_set]
          have hlg1 : (sharesRow (xs.set f (v48_ + 1))).length ≤ xs.length := by have e := HLG.out; omega
          have hlg2 : xs.length ≤ (sharesRow (xs.set f (v48_ + 1))).length := by have e := HLG.out; omega
          go_wp2
          go_loopw [9] (fun kk wr => ∃ k : Nat, kk = .int .i64 k ∧ (k ≤ (sharesRow xs).length) ∧ Below w.heap.size w wr ∧ w57.heap.size ≤ wr.heap.size ∧ Bytes wr (w.heap.size) A0 bs ∧ Own wr (w.heap.size) (w1.heap.size) (some ⟨b31_, f32_, none⟩) xs ∧ Own wr (w1.heap.size) (w9.heap.size) A10_ (sharesRow xs) ∧ Grow wr g33_ c34_ (xs.set f (v48_ + 1)) ∧ Own wr (w35.heap.size) (w57.heap.size) A58_ (sharesRow (xs.set f (v48_ + 1)))) (fun kk _ => (sharesRow xs).length - (intOf kk).toNat)
          case atStart => exact ⟨0, rfl, Nat.zero_le _, B66_, (by first | omega | (simp; omega) | simp), o61_, o62_, o63_, o64_, ho60_⟩
          case round =>
            obtain ⟨k, rfl, hk, k69_, k70_, k71_, k72_, k73_, k74_, k75_⟩ := hrel
            obtain ⟨w68, rfl⟩ : ∃ x, x = wr := ⟨_, rfl⟩
            by_cases hlt2 : k < (sharesRow xs).length
            · obtain ⟨b76_, f77_, rfl, b76_l, b76_h, -⟩ := k73_.ints (by omega)
              have c78_ : w68.cell? ⟨b76_, f77_ + k, none⟩ = some (.int .i64 ((sharesRow xs).getD k 0)) := k73_.ints.at2 k (by first | omega | (simp; omega) | simp)
              have c78_i : (k : Int) < ((sharesRow xs).length : Int) := by omega
              have c78_j : (0 : Int) ≤ (k : Int) := by omega
              have v79_g := sharesRow_rg xs k
              obtain ⟨v79_, hv79_⟩ : ∃ v, v = (sharesRow xs).getD k 0 := ⟨_, rfl⟩
              rw [← hv79_] at c78_ v79_g
              have Hv79_ := Lib.hid hv79_
              clear hv79_
              obtain ⟨v79_g1, v79_g2⟩ := v79_g
              by_cases h80_ : (k : Int) = (f : Int)
              · have h80_b : ((k : Int) == (f : Int)) = true := by simpa using h80_
                have h80_n : ((k : Int) != (f : Int)) = false := by simpa using h80_
                have h80_le : (k : Int) ≤ (f : Int) := by omega
                have h80_ge : (f : Int) ≤ (k : Int) := by omega
                have Hh80_ := Lib.hid h80_
                clear h80_
                have h81_ : ((sharesRow (xs.set f (v48_ + 1))).length : Int) = ((sharesRow xs).length : Int) := by omega
                have h81_b : (((sharesRow (xs.set f (v48_ + 1))).length : Int) == ((sharesRow xs).length : Int)) = true := by simpa using h81_
                have h81_n : (((sharesRow (xs.set f (v48_ + 1))).length : Int) != ((sharesRow xs).length : Int)) = false := by simpa using h81_
                have h81_le : ((sharesRow (xs.set f (v48_ + 1))).length : Int) ≤ ((sharesRow xs).length : Int) := by omega
                have h81_ge : ((sharesRow xs).length : Int) ≤ ((sharesRow (xs.set f (v48_ + 1))).length : Int) := by omega
                have Hh81_ := Lib.hid h81_
                clear h81_
                obtain ⟨b82_, f83_, rfl, b82_l, b82_h, -⟩ := k75_.ints (by omega)
                have c84_ : w68.cell? ⟨b82_, f83_ + k, none⟩ = some (.int .i64 ((sharesRow (xs.set f (v48_ + 1))).getD k 0)) := k75_.ints.at2 k (by first | omega | (simp; omega) | simp)
                have c84_i : (k : Int) < ((sharesRow (xs.set f (v48_ + 1))).length : Int) := by omega
                have c84_j : (0 : Int) ≤ (k : Int) := by omega
                have v85_g := sharesRow_rg (xs.set f (v48_ + 1)) k
                obtain ⟨v85_, hv85_⟩ : ∃ v, v = (sharesRow (xs.set f (v48_ + 1))).getD k 0 := ⟨_, rfl⟩
                rw [← hv85_] at c84_ v85_g
                have Hv85_ := Lib.hid hv85_
                clear hv85_
                obtain ⟨v85_g1, v85_g2⟩ := v85_g
                have h86_ : v85_ = (v79_ + 48) := by have e := shares_more HNB.out HNG.out hff Hv48_.out (HTP.out.all (need_rg HNB.out)) (k := k) (by omega); rw [← Hv85_.out, ← Hv79_.out, if_pos (by have e := Hh80_.out; omega)] at e; omega
                have h86_b : (v85_ == (v79_ + 48)) = true := by simpa using h86_
                have h86_n : (v85_ != (v79_ + 48)) = false := by simpa using h86_
                have h86_le : v85_ ≤ (v79_ + 48) := by omega
                have h86_ge : (v79_ + 48) ≤ v85_ := by omega
                have Hh86_ := Lib.hid h86_
                clear h86_
                go_wp2
                go_roundw
                case rel => exact ⟨k + 1, by go_num, by omega, k69_, (by first | omega | (simp; omega) | simp), k71_, k72_, k73_, k74_, k75_⟩
                case measure => simp [intOf] <;> omega
              · have h80_b : ((k : Int) == (f : Int)) = false := by simpa using h80_
                have h80_n : ((k : Int) != (f : Int)) = true := by simpa using h80_
                have h81_ : ((sharesRow (xs.set f (v48_ + 1))).length : Int) = ((sharesRow xs).length : Int) := by omega
                have h81_b : (((sharesRow (xs.set f (v48_ + 1))).length : Int) == ((sharesRow xs).length : Int)) = true := by simpa using h81_
                have h81_n : (((sharesRow (xs.set f (v48_ + 1))).length : Int) != ((sharesRow xs).length : Int)) = false := by simpa using h81_
                have h81_le : ((sharesRow (xs.set f (v48_ + 1))).length : Int) ≤ ((sharesRow xs).length : Int) := by omega
                have h81_ge : ((sharesRow xs).length : Int) ≤ ((sharesRow (xs.set f (v48_ + 1))).length : Int) := by omega
                have Hh81_ := Lib.hid h81_
                clear h81_
                obtain ⟨b82_, f83_, rfl, b82_l, b82_h, -⟩ := k75_.ints (by omega)
                have c84_ : w68.cell? ⟨b82_, f83_ + k, none⟩ = some (.int .i64 ((sharesRow (xs.set f (v48_ + 1))).getD k 0)) := k75_.ints.at2 k (by first | omega | (simp; omega) | simp)
                have c84_i : (k : Int) < ((sharesRow (xs.set f (v48_ + 1))).length : Int) := by omega
                have c84_j : (0 : Int) ≤ (k : Int) := by omega
                have v85_g := sharesRow_rg (xs.set f (v48_ + 1)) k
                obtain ⟨v85_, hv85_⟩ : ∃ v, v = (sharesRow (xs.set f (v48_ + 1))).getD k 0 := ⟨_, rfl⟩
                rw [← hv85_] at c84_ v85_g
                have Hv85_ := Lib.hid hv85_
                clear hv85_
                obtain ⟨v85_g1, v85_g2⟩ := v85_g
                have h86_ : v85_ = v79_ := by have e := shares_more HNB.out HNG.out hff Hv48_.out (HTP.out.all (need_rg HNB.out)) (k := k) (by omega); rw [← Hv85_.out, ← Hv79_.out, if_neg (by have e := h80_; omega)] at e; omega
                have h86_b : (v85_ == v79_) = true := by simpa using h86_
                have h86_n : (v85_ != v79_) = false := by simpa using h86_
                have h86_le : v85_ ≤ v79_ := by omega
                have h86_ge : v79_ ≤ v85_ := by omega
                have Hh86_ := Lib.hid h86_
                clear h86_
                go_wp2
                go_roundw
                case rel => exact ⟨k + 1, by go_num, by omega, k69_, (by first | omega | (simp; omega) | simp), k71_, k72_, k73_, k74_, k75_⟩
                case measure => simp [intOf] <;> omega
            · obtain rfl : k = (sharesRow xs).length := by omega
              go_wp2_with fail
              refine (alive_any _).mono ?_
              rintro e w76 ⟨rfl, hb76_⟩
              have o77_ := k71_.below hb76_ (by first | omega | (simp; omega) | simp)
              have o78_ := k72_.below hb76_ (by first | omega | (simp; omega) | simp)
              have o79_ := k73_.below hb76_ (by first | omega | (simp; omega) | simp)
              have o80_ := k74_.below hb76_ (by first | omega | (simp; omega) | simp)
              have o81_ := k75_.below hb76_ (by first | omega | (simp; omega) | simp)
              have z82_ := hb76_.size
              have B83_ := k69_.trans (hb76_.mono (by first | omega | (simp; omega) | simp))
              clear hb76_
              go_wp2
              go_ret
              exact ⟨ret_bool (by first | exact rfl | exact h67_b.trans rfl), B83_⟩

set_option maxRecDepth 10000 in
set_option maxHeartbeats 400000 in
theorem fnRunwayLonger_big (A0 : Option Addr) (c0 : Nat) (bs : List Int) (w : World) (hl : ¬ bs.length ≤ 1048576) (hm : bs.length ≤ 9223372036854775807) :
    Calls Try.prog 8 #[.slice A0 bs.length c0] w fun e w' => e = .returned (.bool true) ∧ Below w.heap.size w w' := by
  go_enter Try.func8, Try.ntmps8
  go_wp2
  go_ret
  exact ⟨rfl, Below.refl _ _⟩

theorem fnRunwayLonger_all (A0 : Option Addr) (c0 : Nat) (bs : List Int) (w : World) (h0 : Bytes w w.heap.size A0 bs) (hm : bs.length ≤ 9223372036854775807) (hc0 : bs.length ≤ c0) :
    Calls Try.prog 8 #[.slice A0 bs.length c0] w fun e w' => e = .returned (.bool true) ∧ Below w.heap.size w w' := by
  by_cases hl : bs.length ≤ 1048576
  · exact fnRunwayLonger_walk A0 c0 bs w h0 hl hc0
  · exact fnRunwayLonger_big A0 c0 bs w hl hm

end Go.Proofs.Ytadphfiikkfjaaa
