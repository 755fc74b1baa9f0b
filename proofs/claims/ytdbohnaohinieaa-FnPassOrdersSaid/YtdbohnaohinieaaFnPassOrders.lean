/-
  The law of PassOrders returns true for every code, and writes nothing that was there. No condition.
-/
import Derived.Test.YtdbohnaohinieaaGA
import Derived.Test.YtdbohnaohinieaaDraw11
import Derived.Test.YtdbohnaohinieaaPassL
import Derived.Test.YtdbohnaohinieaaGame11I
import Derived.Test.YtdbohnaohinieaaGC
import Derived.Test.YtdbohnaohinieaaFx
import Derived.Deep.RegionHeld3
namespace Go.Proofs.Ytdbohnaohinieaa
open Go.RowKit

set_option maxRecDepth 10000 in
set_option maxHeartbeats 2000000 in
theorem fnPassOrders_walk (A0 : Option Addr) (c0 : Nat) (bs : List Int) (w : World) (h0 : Bytes w w.heap.size A0 bs) (hl : bs.length ≤ 1048576) (hc0 : bs.length ≤ c0) :
    Calls Try.prog 6 #[.slice A0 bs.length c0] w fun e w' => e = .returned (.bool true) ∧ Below w.heap.size w w' := by
  have hlm : bs.length ≤ 9223372036854775807 := by omega
  go_enter Try.func6, Try.ntmps6
  have Htrue : Hid True := trivial
  have hc0u := hc0
  have h0u := h0
  have hlmu := hlm
  go_wp2_with fail
  refine (drawPassOrders_any A0 c0 bs _ (h0.more (by first | omega | (simp; omega) | simp)) hlm hc0).mono ?_
  rintro e w1 ⟨g1, o1, c4_, vs, N, s, ⟨hg1a, hg1b⟩, hxc, hx12, ⟨hN1, hN8⟩, ⟨hsl, hsu⟩, rfl, ho5_, hb2_⟩
  have o6_ := h0.below hb2_ (by first | omega | (simp; omega) | simp)
  have z7_ := hb2_.size
  have B8_ := (Below.refl w.heap.size w).trans (hb2_.mono (by first | omega | (simp; omega) | simp))
  clear hb2_
  go_wp2_with fail
  refine (implPassOrders_any N (some ⟨g1, o1, none⟩) c4_ vs s _ _ _ ho5_.ints (by first | omega | (simp; omega) | simp) (by omega)).mono ?_
  rintro e w9 ⟨A10_, c11_, rfl, ho12_, hb9_⟩
  have o13_ := o6_.below hb9_ (by first | omega | (simp; omega) | simp)
  have o14_ := ho5_.below hb9_ (by first | omega | (simp; omega) | simp)
  have z15_ := hb9_.size
  have B16_ := B8_.trans (hb9_.mono (by first | omega | (simp; omega) | simp))
  clear hb9_
  go_wp2_with fail
  refine (specPassOrders_any N (some ⟨g1, o1, none⟩) c4_ vs s _ _ _ o14_.ints (by first | omega | (simp; omega) | simp) (by omega)).mono ?_
  rintro e w17 ⟨A18_, c19_, rfl, ho20_, hb17_⟩
  have o21_ := o13_.below hb17_ (by first | omega | (simp; omega) | simp)
  have o22_ := o14_.below hb17_ (by first | omega | (simp; omega) | simp)
  have o23_ := ho12_.below hb17_ (by first | omega | (simp; omega) | simp)
  have z24_ := hb17_.size
  have B25_ := B16_.trans (hb17_.mono (by first | omega | (simp; omega) | simp))
  clear hb17_
  go_wp2_with fail
  refine (sameInts_yes A10_ A18_ c11_ c19_ (passRow N vs s) (passRow N vs s) _ _ _ _ _ o23_.ints ho20_.ints (by have e := passRow_len4 N vs s; omega) rfl).mono ?_
  rintro e w26 ⟨rfl, hb26_⟩
  have o27_ := o21_.below hb26_ (by first | omega | (simp; omega) | simp)
  have o28_ := o22_.below hb26_ (by first | omega | (simp; omega) | simp)
  have o29_ := o23_.below hb26_ (by first | omega | (simp; omega) | simp)
  have o30_ := ho20_.below hb26_ (by first | omega | (simp; omega) | simp)
  have z31_ := hb26_.size
  have B32_ := B25_.trans (hb26_.mono (by first | omega | (simp; omega) | simp))
  clear hb26_
  by_cases h33_ : ((passRow N vs s).length : Int) = 0
  · have h33_b : (((passRow N vs s).length : Int) == 0) = true := by simpa using h33_
    have h33_n : (((passRow N vs s).length : Int) != 0) = false := by simpa using h33_
    have h33_le : ((passRow N vs s).length : Int) ≤ 0 := by omega
    have h33_ge : 0 ≤ ((passRow N vs s).length : Int) := by omega
    have Hh33_ := Lib.hid h33_
    clear h33_
    go_wp2_with fail
    refine (alive_any _).mono ?_
    rintro e w34 ⟨rfl, hb34_⟩
    have o35_ := o27_.below hb34_ (by first | omega | (simp; omega) | simp)
    have o36_ := o28_.below hb34_ (by first | omega | (simp; omega) | simp)
    have o37_ := o29_.below hb34_ (by first | omega | (simp; omega) | simp)
    have o38_ := o30_.below hb34_ (by first | omega | (simp; omega) | simp)
    have z39_ := hb34_.size
    have B40_ := B32_.trans (hb34_.mono (by first | omega | (simp; omega) | simp))
    clear hb34_
    go_wp2
    go_ret
    exact ⟨ret_bool (by first | exact rfl | exact h33_b.trans rfl), B40_⟩
  · have h33_b : (((passRow N vs s).length : Int) == 0) = false := by simpa using h33_
    have h33_n : (((passRow N vs s).length : Int) != 0) = true := by simpa using h33_
    obtain ⟨hvb, hpp⟩ := passRow_none (N := N) (vs := vs) (p := s) (by omega)
    obtain ⟨n, rfl⟩ := vis_nat hvb
    have HVB : Hid (visB (n : Int) vs = true) := hvb
    have hvn := vis_n hvb
    obtain ⟨hn1, hn4, hv6⟩ := hvn
    obtain ⟨hp1, hp2⟩ := pow_bd hn4
    have hpn := pow16 hn4
    obtain ⟨hpn1, hpn2⟩ := hpn
    clear hvb
    have HPP := Lib.hid hpp
    obtain ⟨hs0, hs12⟩ := hpp
    have HLO : Hid ((passRow (n : Int) vs s).length = n) := passRow_length HVB.out HPP.out
    have hlo1 : (passRow (n : Int) vs s).length ≤ n := by have e := HLO.out; omega
    have hlo2 : n ≤ (passRow (n : Int) vs s).length := by have e := HLO.out; omega
    go_upto_region 10 with (at_make; (refine make_gr (by rfl) _ _ (by rfl) (n := n) (x := (n : Int)) (by omega) (by rfl) (by rfl) (by omega) ?_; intro w34 G34_ hb35_))
    have o37_ := o27_.below hb35_ (by first | omega | (simp; omega) | simp)
    have o38_ := o28_.below hb35_ (by first | omega | (simp; omega) | simp)
    have o39_ := o29_.below hb35_ (by first | omega | (simp; omega) | simp)
    have o40_ := o30_.below hb35_ (by first | omega | (simp; omega) | simp)
    have z41_ := hb35_.size
    have B42_ := B32_.trans (hb35_.mono (by first | omega | (simp; omega) | simp))
    clear hb35_
    have l43_ := G34_.lt
    have HL44_ : Hid ((List.replicate n 0).length = n) := List.length_replicate
    go_wp2
    go_loopw [8] (fun kk wr => ∃ k : Nat, kk = .int .i64 k ∧ (k ≤ vs.length) ∧ Grow wr w26.heap.size n (fnRow n (passTo vs s n k)) ∧ Below w.heap.size w wr ∧ w34.heap.size ≤ wr.heap.size ∧ Bytes wr (w.heap.size) A0 bs ∧ Own wr (w.heap.size) (w1.heap.size) (some ⟨g1, o1, none⟩) vs ∧ Own wr (w1.heap.size) (w9.heap.size) A10_ (passRow (n : Int) vs s) ∧ Own wr (w9.heap.size) (w17.heap.size) A18_ (passRow (n : Int) vs s)) (fun kk _ => vs.length - (intOf kk).toNat)
    case atStart => exact ⟨0, rfl, Nat.zero_le _, (by rw [passRow_zero]; exact G34_), B42_, (by first | omega | (simp; omega) | simp), o37_, o38_, o39_, o40_⟩
    case round =>
      obtain ⟨k, rfl, hk, G46_, k47_, k48_, k49_, k50_, k51_, k52_⟩ := hrel
      obtain ⟨w45, rfl⟩ : ∃ x, x = wr := ⟨_, rfl⟩
      have HL53_ : Hid ((fnRow n (passTo vs s n k)).length = n) := (fnRow_length _ _)
      have l54_ := G46_.lt
      by_cases hlt0 : k < vs.length
      · have c55_ : w45.cell? ⟨g1, o1 + k, none⟩ = some (.int .i64 (vs.getD k 0)) := k50_.ints.at2 k (by first | omega | (simp; omega) | simp)
        have c55_i : (k : Int) < (vs.length : Int) := by omega
        have c55_j : (0 : Int) ≤ (k : Int) := by omega
        have v56_g := vis_rg HVB.out k
        obtain ⟨v56_, hv56_⟩ : ∃ v, v = vs.getD k 0 := ⟨_, rfl⟩
        rw [← hv56_] at c55_ v56_g
        have Hv56_ := Lib.hid hv56_
        clear hv56_
        obtain ⟨v56_g1, v56_g2⟩ := v56_g
        have o57_ := k49_.below ((Below.refl _ _).alloc (Nat.le_refl _) (.cells #[.int .i64 v56_] 3)) (by first | omega | (simp; omega) | simp)
        have o58_ := k50_.alloc (by first | omega | (simp; omega) | simp) (.cells #[.int .i64 v56_] 3)
        have o59_ := k51_.alloc (by first | omega | (simp; omega) | simp) (.cells #[.int .i64 v56_] 3)
        have o60_ := k52_.alloc (by first | omega | (simp; omega) | simp) (.cells #[.int .i64 v56_] 3)
        have o61_ := G46_.alloc (.cells #[.int .i64 v56_] 3)
        have B62_ := k47_.alloc (by first | omega | (simp; omega) | simp) (.cells #[.int .i64 v56_] 3)
        have G63_ : Grow (w45.alloc (.cells #[.int .i64 v56_] 3)) (w45.heap.size) 1 ([v56_] : List Int) := by have e := grow_lit w45 ([v56_] : List Int) (by simp); (try simp only [hsz] at e); exact e
        have l64_ := G63_.lt
        have HL65_ : Hid (([v56_] : List Int).length = 1) := rfl
        go_wp2_with fail
        rw [slice_n (A := (some ⟨w45.heap.size, 0, none⟩)) (n := 1) (m := ([v56_] : List Int).length) (c := 1) (by have e := HL65_.out; first | omega | exact e.symm)]
        refine (implPassOrders_any (n : Int) (some ⟨w45.heap.size, 0, none⟩) 1 ([v56_] : List Int) s _ _ _ G63_.ints (by first | omega | (simp; omega) | simp) (by have e := HL65_.out; omega)).mono ?_
        rintro e w66 ⟨A67_, c68_, rfl, ho69_, hb66_⟩
        have ho69_ : Own w66 (w45.heap.size + 1) w66.heap.size A67_ (passRow (n : Int) ([v56_] : List Int) s) := ho69_.more (by simp) (Nat.le_refl _)
        have o70_ := o57_.below hb66_ (by first | omega | (simp; omega) | simp)
        have o71_ := o58_.below hb66_ (by first | omega | (simp; omega) | simp)
        have o72_ := o59_.below hb66_ (by first | omega | (simp; omega) | simp)
        have o73_ := o60_.below hb66_ (by first | omega | (simp; omega) | simp)
        have o74_ := o61_.below hb66_ (by first | omega | (simp; omega) | simp)
        have o75_ := G63_.below hb66_ (by first | omega | (simp; omega) | simp)
        have z76_ := hb66_.size
        try simp at z76_
        have B77_ := B62_.trans (hb66_.mono (by first | omega | (simp; omega) | simp))
        clear hb66_
        have HLV := Lib.hid (passRow_length (pass_alone HVB.out HPP.out (by omega) Hv56_.out).2 HPP.out)
        have hlv1 : (passRow (n : Int) ([v56_] : List Int) s).length ≤ n := by have e := HLV.out; omega
        have hlv2 : n ≤ (passRow (n : Int) ([v56_] : List Int) s).length := by have e := HLV.out; omega
        go_wp2
        go_loopw [10] (fun qq wr => ∃ q : Nat, qq = .int .i64 q ∧ (q ≤ n) ∧ Grow wr w26.heap.size n (fnRow n (fun i => if i < q then passTo vs s n (k + 1) i else passTo vs s n k i)) ∧ Below w.heap.size w wr ∧ w66.heap.size ≤ wr.heap.size ∧ Bytes wr (w.heap.size) A0 bs ∧ Own wr (w.heap.size) (w1.heap.size) (some ⟨g1, o1, none⟩) vs ∧ Own wr (w1.heap.size) (w9.heap.size) A10_ (passRow (n : Int) vs s) ∧ Own wr (w9.heap.size) (w17.heap.size) A18_ (passRow (n : Int) vs s) ∧ Grow wr w45.heap.size 1 ([v56_] : List Int) ∧ Own wr (w45.heap.size + 1) (w66.heap.size) A67_ (passRow (n : Int) ([v56_] : List Int) s)) (fun qq _ => n - (intOf qq).toNat)
        case atStart => exact ⟨0, rfl, Nat.zero_le _, (by rw [passRow_start]; exact o74_), B77_, (by first | omega | (simp; omega) | simp), o70_, o71_, o72_, o73_, o75_, ho69_⟩
        case round =>
          obtain ⟨q, rfl, hq, G79_, k80_, k81_, k82_, k83_, k84_, k85_, k86_, k87_⟩ := hrel
          obtain ⟨w78, rfl⟩ : ∃ x, x = wr := ⟨_, rfl⟩
          have HL88_ : Hid ((fnRow n (fun i => if i < q then passTo vs s n (k + 1) i else passTo vs s n k i)).length = n) := (fnRow_length _ _)
          have l89_ := G79_.lt
          by_cases hlt2 : q < n
          · have h90_ : ((passRow (n : Int) ([v56_] : List Int) s).length : Int) = (n : Int) := by omega
            have h90_b : (((passRow (n : Int) ([v56_] : List Int) s).length : Int) == (n : Int)) = true := by simpa using h90_
            have h90_n : (((passRow (n : Int) ([v56_] : List Int) s).length : Int) != (n : Int)) = false := by simpa using h90_
            have h90_le : ((passRow (n : Int) ([v56_] : List Int) s).length : Int) ≤ (n : Int) := by omega
            have h90_ge : (n : Int) ≤ ((passRow (n : Int) ([v56_] : List Int) s).length : Int) := by omega
            have Hh90_ := Lib.hid h90_
            clear h90_
            have c91_ : w78.cell? ⟨w26.heap.size, q, none⟩ = some (.int .i64 ((fnRow n (fun i => if i < q then passTo vs s n (k + 1) i else passTo vs s n k i)).getD q 0)) := G79_.at_ q (by rw [fnRow_length]; omega)
            have c91_i : (q : Int) < (n : Int) := by omega
            have c91_j : (0 : Int) ≤ (q : Int) := by omega
            have v92_g := passMid_rg (vs := vs) hn4 HPP.out (k := k) (q := q) (by omega) (i := q) (by omega)
            obtain ⟨v92_, hv92_⟩ : ∃ v, v = (fnRow n (fun i => if i < q then passTo vs s n (k + 1) i else passTo vs s n k i)).getD q 0 := ⟨_, rfl⟩
            rw [← hv92_] at c91_ v92_g
            have Hv92_ := Lib.hid hv92_
            clear hv92_
            obtain ⟨v92_g1, v92_g2⟩ := v92_g
            obtain ⟨b93_, f94_, rfl, b93_l, b93_h, -⟩ := k87_.ints (by omega)
            have c95_ : w78.cell? ⟨b93_, f94_ + q, none⟩ = some (.int .i64 ((passRow (n : Int) ([v56_] : List Int) s).getD q 0)) := k87_.ints.at2 q (by first | omega | (simp; omega) | simp)
            have c95_i : (q : Int) < ((passRow (n : Int) ([v56_] : List Int) s).length : Int) := by omega
            have c95_j : (0 : Int) ≤ (q : Int) := by omega
            have v96_g := passRow_rg (n : Int) ([v56_] : List Int) s q
            obtain ⟨v96_, hv96_⟩ : ∃ v, v = (passRow (n : Int) ([v56_] : List Int) s).getD q 0 := ⟨_, rfl⟩
            rw [← hv96_] at c95_ v96_g
            have Hv96_ := Lib.hid hv96_
            clear hv96_
            obtain ⟨v96_g1, v96_g2⟩ := v96_g
            have hw97_ : IntKind.i64.wrap (v92_ + v96_) = (v92_ + v96_) := IntWalk.i64_in _ (by omega)
            have c98_ := G79_.at_ q (by rw [fnRow_length]; omega)
            have c98_f := G79_.soft q (by rw [fnRow_length]; omega)
            clear c98_
            have c98_i : (q : Int) < (n : Int) := by omega
            have c98_j : (0 : Int) ≤ (q : Int) := by omega
            have hw101_ : IntKind.i64.wrap (v92_ + v96_) = (v92_ + v96_) := IntWalk.i64_in _ (by omega)
            go_wp2_with fail
            go_region
            obtain ⟨w100, hw100⟩ : ∃ x, x = ((w78.setCell ⟨w26.heap.size, q, none⟩ (.int .i64 (v92_ + v96_))).drew) := ⟨_, rfl⟩
            rw [← hw100]
            have hC99_ : Chg w26.heap.size (w26.heap.size + 1) w78 w100 := by rw [hw100]; exact (Chg.setCell (lo := w26.heap.size) (hi := w26.heap.size + 1) w78 (p := ⟨w26.heap.size, q, none⟩) ⟨Nat.le_refl _, Nat.lt_succ_self _⟩ (.int .i64 (v92_ + v96_))).drewR
            have G102_ : Grow w100 w26.heap.size n ((fnRow n (fun i => if i < q then passTo vs s n (k + 1) i else passTo vs s n k i)).set q (v92_ + v96_)) := by rw [hw100]; exact (G79_.store q (v92_ + v96_)).drew
            clear hw100
            have o103_ := k82_.chg hC99_ (by first | omega | (simp; omega) | simp) (by omega)
            have o104_ := k83_.chg hC99_ (by first | omega | (simp; omega) | simp) (by omega)
            have o105_ := k84_.chg hC99_ (by first | omega | (simp; omega) | simp) (by omega)
            have o106_ := k85_.chg hC99_ (by first | omega | (simp; omega) | simp) (by omega)
            have o107_ := k86_.chg hC99_ (by omega)
            have o108_ := k87_.chg hC99_ (by first | omega | (simp; omega) | simp) (by omega)
            have z109_ := hC99_.size
            have B110_ := k80_.trans (hC99_.below (by omega) (by first | omega | (simp; omega) | simp))
            clear hC99_
            have HL111_ : Hid (((fnRow n (fun i => if i < q then passTo vs s n (k + 1) i else passTo vs s n k i)).set q (v92_ + v96_)).length = n) := by show _ = _; rw [List.length_set]; first | rfl | omega | exact HL88_.out
            go_wp2
            go_roundw
            case rel => exact ⟨q + 1, by go_num, by omega, (by rw [← pass_more (o := v92_) (m := v96_) (v := v56_) (by omega) Hv56_.out Hv92_.out (by rw [Hv96_.out, (pass_alone HVB.out HPP.out (by omega) Hv56_.out).1, passR, fnRow_getD _ (by omega)])]; exact G102_), B110_, (by first | omega | (simp; omega) | simp), o103_, o104_, o105_, o106_, o107_, o108_⟩
            case measure => simp [intOf] <;> omega
          · have hqn : n ≤ q := by omega
            go_wp2
            go_roundw
            case rel => exact ⟨k + 1, by go_num, by omega, (by have e := G79_; rw [passRow_next vs s (show n ≤ q by omega)] at e; exact e), k80_, (by first | omega | (simp; omega) | simp), k82_, k83_, k84_, k85_⟩
            case measure => simp [intOf] <;> omega
      · obtain rfl : k = vs.length := by omega
        go_wp2
        go_loopw [11] (fun tt wr => ∃ t : Nat, tt = .int .i64 t ∧ (t ≤ 2 ^ n) ∧ ((t : Int) ≤ 2 ^ n) ∧ Below w.heap.size w wr ∧ w45.heap.size ≤ wr.heap.size ∧ Bytes wr (w.heap.size) A0 bs ∧ Own wr (w.heap.size) (w1.heap.size) (some ⟨g1, o1, none⟩) vs ∧ Own wr (w1.heap.size) (w9.heap.size) A10_ (passRow (n : Int) vs s) ∧ Own wr (w9.heap.size) (w17.heap.size) A18_ (passRow (n : Int) vs s) ∧ Grow wr w26.heap.size n (fnRow n (passTo vs s n vs.length))) (fun tt _ => 2 ^ n - (intOf tt).toNat)
        case atStart => exact ⟨0, rfl, Nat.zero_le _, by omega, k47_, (by first | omega | (simp; omega) | simp), k49_, k50_, k51_, k52_, G46_⟩
        case round =>
          obtain ⟨t, rfl, ht, htI, k56_, k57_, k58_, k59_, k60_, k61_, k62_⟩ := hrel
          obtain ⟨w55, rfl⟩ : ∃ x, x = wr := ⟨_, rfl⟩
          by_cases hlt4 : (t : Int) < 2 ^ n
          · have htn : t < 2 ^ n := by have q := powI (n := n); omega
            have h63_ : ((passRow (n : Int) vs s).length : Int) = (n : Int) := by omega
            have h63_b : (((passRow (n : Int) vs s).length : Int) == (n : Int)) = true := by simpa using h63_
            have h63_n : (((passRow (n : Int) vs s).length : Int) != (n : Int)) = false := by simpa using h63_
            have h63_le : ((passRow (n : Int) vs s).length : Int) ≤ (n : Int) := by omega
            have h63_ge : (n : Int) ≤ ((passRow (n : Int) vs s).length : Int) := by omega
            have Hh63_ := Lib.hid h63_
            clear h63_
            go_wp2
            go_loopw [12, 13] (fun hs jj wr => ∃ j : Nat, ∃ H : Int, hs = .int .i64 H ∧ jj = .int .i64 j ∧ (j ≤ n) ∧ (H = inSum (passRow (n : Int) vs s) (t : Int) j) ∧ Below w.heap.size w wr ∧ w55.heap.size ≤ wr.heap.size ∧ Bytes wr (w.heap.size) A0 bs ∧ Own wr (w.heap.size) (w1.heap.size) (some ⟨g1, o1, none⟩) vs ∧ Own wr (w1.heap.size) (w9.heap.size) A10_ (passRow (n : Int) vs s) ∧ Own wr (w9.heap.size) (w17.heap.size) A18_ (passRow (n : Int) vs s) ∧ Grow wr w26.heap.size n (fnRow n (passTo vs s n vs.length))) (fun hs jj _ => n - (intOf jj).toNat)
            case atStart => exact ⟨0, 0, rfl, rfl, Nat.zero_le _, rfl, k56_, (by first | omega | (simp; omega) | simp), k58_, k59_, k60_, k61_, k62_⟩
            case round =>
              obtain ⟨j, H, rfl, rfl, hj, hH, k65_, k66_, k67_, k68_, k69_, k70_, k71_⟩ := hrel
              obtain ⟨w64, rfl⟩ : ∃ x, x = wr := ⟨_, rfl⟩
              have hHb := pass_in_rg (N := (n : Int)) (vs := vs) (p := s) (t : Int) (j := j) (by omega)
              rw [← hH] at hHb
              obtain ⟨hHb1, hHb2⟩ := hHb
              have hp2_ : 0 ≤ (t : Int) / 2 ^ j := Int.ediv_nonneg (by omega) (by exact Int.le_of_lt (Int.pow_pos (by omega)))
              have HH := Lib.hid hH
              clear hH
              by_cases hlt6 : j < n
              · by_cases h72_ : (((t : Int) / 2 ^ j) % 2) = 1
                · have h72_b : ((((t : Int) / 2 ^ j) % 2) == 1) = true := by simpa using h72_
                  have h72_n : ((((t : Int) / 2 ^ j) % 2) != 1) = false := by simpa using h72_
                  have h72_le : (((t : Int) / 2 ^ j) % 2) ≤ 1 := by omega
                  have h72_ge : 1 ≤ (((t : Int) / 2 ^ j) % 2) := by omega
                  have Hh72_ := Lib.hid h72_
                  clear h72_
                  obtain ⟨b73_, f74_, rfl, b73_l, b73_h, -⟩ := k69_.ints (by omega)
                  have c75_ : w64.cell? ⟨b73_, f74_ + j, none⟩ = some (.int .i64 ((passRow (n : Int) vs s).getD j 0)) := k69_.ints.at2 j (by first | omega | (simp; omega) | simp)
                  have c75_i : (j : Int) < ((passRow (n : Int) vs s).length : Int) := by omega
                  have c75_j : (0 : Int) ≤ (j : Int) := by omega
                  have v76_g := passRow_rg (n : Int) vs s j
                  obtain ⟨v76_, hv76_⟩ : ∃ v, v = (passRow (n : Int) vs s).getD j 0 := ⟨_, rfl⟩
                  rw [← hv76_] at c75_ v76_g
                  have Hv76_ := Lib.hid hv76_
                  clear hv76_
                  obtain ⟨v76_g1, v76_g2⟩ := v76_g
                  go_wp2
                  go_roundw
                  case rel => exact ⟨j + 1, H + v76_, by go_num, by go_num, by omega, by simp only [inSum]; rw [← HH.out, if_pos Hh72_.out, ← Hv76_.out], k65_, (by first | omega | (simp; omega) | simp), k67_, k68_, k69_, k70_, k71_⟩
                  case measure => simp [intOf] <;> omega
                · have h72_b : ((((t : Int) / 2 ^ j) % 2) == 1) = false := by simpa using h72_
                  have h72_n : ((((t : Int) / 2 ^ j) % 2) != 1) = true := by simpa using h72_
                  go_wp2
                  go_roundw
                  case rel => exact ⟨j + 1, H, by go_num, by go_num, by omega, by simp only [inSum]; rw [← HH.out, if_neg h72_]; omega, k65_, (by first | omega | (simp; omega) | simp), k67_, k68_, k69_, k70_, k71_⟩
                  case measure => simp [intOf] <;> omega
              · have hHn : H = inSum (passRow (n : Int) vs s) (t : Int) n := by rw [HH.out, show j = n from by omega]
                have HH := Lib.hid hHn
                clear hHn
                go_wp2_with fail
                refine (implPassWorth_any (n : Int) (some ⟨g1, o1, none⟩) c4_ vs (t : Int) _ _ _ k68_.ints (by first | omega | (simp; omega) | simp) (by omega)).mono ?_
                rintro e w72 ⟨he, hb72_⟩
                obtain ⟨v73_, hv73_⟩ : ∃ v, passW (n : Int) vs (t : Int) = v := ⟨_, rfl⟩
                rw [hv73_] at he
                subst he
                have bv73_ : -1 ≤ v73_ ∧ v73_ ≤ 6 := by rw [← hv73_]; exact passW_rg _ _ _
                obtain ⟨bv73_1, bv73_2⟩ := bv73_
                have Hv73_ := Lib.hid hv73_
                clear hv73_
                have o74_ := k67_.below hb72_ (by first | omega | (simp; omega) | simp)
                have o75_ := k68_.below hb72_ (by first | omega | (simp; omega) | simp)
                have o76_ := k69_.below hb72_ (by first | omega | (simp; omega) | simp)
                have o77_ := k70_.below hb72_ (by first | omega | (simp; omega) | simp)
                have o78_ := k71_.below hb72_ (by first | omega | (simp; omega) | simp)
                have z79_ := hb72_.size
                have B80_ := k65_.trans (hb72_.mono (by first | omega | (simp; omega) | simp))
                clear hb72_
                obtain ⟨P81_, hP81_⟩ : ∃ P, (48 * s) * v73_ = P := ⟨_, rfl⟩
                have bP81_ := mul_rg6 (a := (48 * s)) (b := v73_) (by omega) (by omega)
                rw [hP81_] at bP81_
                obtain ⟨bP81_, bP81_'⟩ := bP81_
                have wP81_ : IntKind.i64.wrap P81_ = P81_ := IntWalk.i64_in _ (by omega)
                have h82_ : ¬ (H < P81_) := by have e := pass_has HVB.out HPP.out (t := t) (by omega); rw [Hv73_.out, hP81_] at e; rw [HH.out]; omega
                have h82_d : decide (H < P81_) = false := decide_eq_false h82_
                go_wp2
                go_roundw
                case rel => exact ⟨t + 1, by go_num, by omega, by omega, B80_, (by first | omega | (simp; omega) | simp), o74_, o75_, o76_, o77_, o78_⟩
                case measure => simp [intOf] <;> omega
          · have H63_ : Hid ((fnRow n (passTo vs s n vs.length)) = (passRow (n : Int) vs s)) := by show _ = _; rw [passRow_yes HVB.out HPP.out]; rfl
            go_wp2_with fail
            rw [slice_n (A := (some ⟨w26.heap.size, 0, none⟩)) (n := n) (m := (fnRow n (passTo vs s n vs.length)).length) (c := n) (by have e := HL53_.out; first | omega | exact e.symm)]
            refine (sameInts_yes (some ⟨w26.heap.size, 0, none⟩) A10_ n c11_ (fnRow n (passTo vs s n vs.length)) (passRow (n : Int) vs s) _ _ _ _ _ k62_.ints k60_.ints (by have e := HL53_.out; omega) H63_.out).mono ?_
            rintro e w64 ⟨rfl, hb64_⟩
            have o65_ := k58_.below hb64_ (by first | omega | (simp; omega) | simp)
            have o66_ := k59_.below hb64_ (by first | omega | (simp; omega) | simp)
            have o67_ := k60_.below hb64_ (by first | omega | (simp; omega) | simp)
            have o68_ := k61_.below hb64_ (by first | omega | (simp; omega) | simp)
            have o69_ := k62_.below hb64_ (by first | omega | (simp; omega) | simp)
            have z70_ := hb64_.size
            have B71_ := k56_.trans (hb64_.mono (by first | omega | (simp; omega) | simp))
            clear hb64_
            go_wp2
            go_ret
            exact ⟨ret_bool (by first | exact rfl | exact h33_b.trans rfl), B71_⟩

set_option maxRecDepth 10000 in
set_option maxHeartbeats 400000 in
theorem fnPassOrders_big (A0 : Option Addr) (c0 : Nat) (bs : List Int) (w : World) (hl : ¬ bs.length ≤ 1048576) (hm : bs.length ≤ 9223372036854775807) :
    Calls Try.prog 6 #[.slice A0 bs.length c0] w fun e w' => e = .returned (.bool true) ∧ Below w.heap.size w w' := by
  go_enter Try.func6, Try.ntmps6
  go_wp2
  go_ret
  exact ⟨rfl, Below.refl _ _⟩

theorem fnPassOrders_all (A0 : Option Addr) (c0 : Nat) (bs : List Int) (w : World) (h0 : Bytes w w.heap.size A0 bs) (hm : bs.length ≤ 9223372036854775807) (hc0 : bs.length ≤ c0) :
    Calls Try.prog 6 #[.slice A0 bs.length c0] w fun e w' => e = .returned (.bool true) ∧ Below w.heap.size w w' := by
  by_cases hl : bs.length ≤ 1048576
  · exact fnPassOrders_walk A0 c0 bs w h0 hl hc0
  · exact fnPassOrders_big A0 c0 bs w hl hm

end Go.Proofs.Ytdbohnaohinieaa
