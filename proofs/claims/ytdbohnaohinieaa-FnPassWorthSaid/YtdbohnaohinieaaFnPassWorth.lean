/-
  The law of PassWorth returns true for every two codes, and writes nothing that was there. No condition.
-/
import Derived.Test.YtdbohnaohinieaaGA
import Derived.Test.YtdbohnaohinieaaDraw11
import Derived.Test.YtdbohnaohinieaaPassL
import Derived.Test.YtdbohnaohinieaaGame11I
import Derived.Test.YtdbohnaohinieaaGC
import Derived.Test.YtdbohnaohinieaaFx
import Derived.Deep.RegionHeld3
namespace Go.Proofs.Ytdbohnaohinieaa
open Go.RowKit

set_option maxRecDepth 10000 in
set_option maxHeartbeats 4000000 in
theorem fnPassWorth_walk (A0 : Option Addr) (c0 : Nat) (bs : List Int) (B0 : Option Addr) (d0 : Nat) (ds : List Int) (w : World) (h0 : Bytes w w.heap.size A0 bs) (h1 : Bytes w w.heap.size B0 ds) (hl : bs.length ≤ 1048576) (hl1 : ds.length ≤ 1048576) (hc0 : bs.length ≤ c0) (hd0 : ds.length ≤ d0) :
    Calls Try.prog 5 #[.slice A0 bs.length c0, .slice B0 ds.length d0] w fun e w' => e = .returned (.bool true) ∧ Below w.heap.size w w' := by
  have hlm : bs.length ≤ 9223372036854775807 := by omega
  have hlm1 : ds.length ≤ 9223372036854775807 := by omega
  go_enter Try.func5, Try.ntmps5
  have Htrue : Hid True := trivial
  have hc0u := hc0
  have h0u := h0
  have hlmu := hlm
  have hd0u := hd0
  have h1u := h1
  have hlm1u := hlm1
  go_wp2_with fail
  refine (drawPassWorth_any A0 c0 bs _ (h0.more (by first | omega | (simp; omega) | simp)) hlm hc0).mono ?_
  rintro e w1 ⟨g1, o1, c4_, vs, N, s, ⟨hg1a, hg1b⟩, hxc, hx12, ⟨hN1, hN8⟩, ⟨hsl, hsu⟩, rfl, ho5_, hb2_⟩
  have o6_ := h0.below hb2_ (by first | omega | (simp; omega) | simp)
  have o7_ := h1.below hb2_ (by first | omega | (simp; omega) | simp)
  have z8_ := hb2_.size
  have B9_ := (Below.refl w.heap.size w).trans (hb2_.mono (by first | omega | (simp; omega) | simp))
  clear hb2_
  go_wp2_with fail
  refine (implPassWorth_any N (some ⟨g1, o1, none⟩) c4_ vs s _ _ _ ho5_.ints (by first | omega | (simp; omega) | simp) (by omega)).mono ?_
  rintro e w10 ⟨he, hb10_⟩
  obtain ⟨v11_, hv11_⟩ : ∃ v, passW N vs s = v := ⟨_, rfl⟩
  rw [hv11_] at he
  subst he
  have bv11_ : -1 ≤ v11_ ∧ v11_ ≤ 6 := by rw [← hv11_]; exact passW_rg _ _ _
  obtain ⟨bv11_1, bv11_2⟩ := bv11_
  have Hv11_ := Lib.hid hv11_
  clear hv11_
  have o12_ := o6_.below hb10_ (by first | omega | (simp; omega) | simp)
  have o13_ := o7_.below hb10_ (by first | omega | (simp; omega) | simp)
  have o14_ := ho5_.below hb10_ (by first | omega | (simp; omega) | simp)
  have z15_ := hb10_.size
  have B16_ := B9_.trans (hb10_.mono (by first | omega | (simp; omega) | simp))
  clear hb10_
  go_wp2_with fail
  refine (specPassWorth_any N (some ⟨g1, o1, none⟩) c4_ vs s _ _ _ o14_.ints (by first | omega | (simp; omega) | simp) (by omega)).mono ?_
  rintro e w17 ⟨he, hb17_⟩
  rw [Hv11_.out] at he
  subst he
  have o18_ := o12_.below hb17_ (by first | omega | (simp; omega) | simp)
  have o19_ := o13_.below hb17_ (by first | omega | (simp; omega) | simp)
  have o20_ := o14_.below hb17_ (by first | omega | (simp; omega) | simp)
  have z21_ := hb17_.size
  have B22_ := B16_.trans (hb17_.mono (by first | omega | (simp; omega) | simp))
  clear hb17_
  by_cases h23_ : v11_ < 0
  · have h23_d : decide (v11_ < 0) = true := decide_eq_true h23_
    have h24_ : v11_ = -1 := by rw [← Hv11_.out]; exact passW_neg (by rw [Hv11_.out]; omega)
    have h24_b : (v11_ == -1) = true := by simpa using h24_
    have h24_n : (v11_ != -1) = false := by simpa using h24_
    have h24_le : v11_ ≤ -1 := by omega
    have h24_ge : -1 ≤ v11_ := by omega
    have Hh24_ := Lib.hid h24_
    clear h24_
    go_wp2_with fail
    refine (alive_any _).mono ?_
    rintro e w25 ⟨rfl, hb25_⟩
    have o26_ := o18_.below hb25_ (by first | omega | (simp; omega) | simp)
    have o27_ := o19_.below hb25_ (by first | omega | (simp; omega) | simp)
    have o28_ := o20_.below hb25_ (by first | omega | (simp; omega) | simp)
    have z29_ := hb25_.size
    have B30_ := B22_.trans (hb25_.mono (by first | omega | (simp; omega) | simp))
    clear hb25_
    go_wp2
    go_ret
    exact ⟨ret_bool (by first | exact rfl | exact h24_b.trans rfl), B30_⟩
  · have h23_d : decide (v11_ < 0) = false := decide_eq_false h23_
    obtain ⟨hvb, hs0, hs1⟩ := passW_some (N := N) (vs := vs) (s := s) (by rw [Hv11_.out]; omega)
    obtain ⟨n, rfl⟩ := vis_nat hvb
    rw [Int.toNat_natCast] at hs1
    have HVB : Hid (visB (n : Int) vs = true) := hvb
    have hvn := vis_n hvb
    obtain ⟨hn1, hn4, hv6⟩ := hvn
    obtain ⟨hp1, hp2⟩ := pow_bd hn4
    have hpn := pow16 hn4
    obtain ⟨hpn1, hpn2⟩ := hpn
    clear hvb
    by_cases h24_ : (ds.length : Int) > 0
    · have h24_d : decide ((ds.length : Int) > 0) = true := decide_eq_true h24_
      obtain ⟨b25_, f26_, rfl, b25_h, c28_, v27_l, v27_u⟩ := o19_.at_ (k := 0) (by omega)
      generalize ds[0] = v27_ at c28_ v27_l v27_u
      have c28_ : w17.cell? ⟨b25_, f26_, none⟩ = some (.int .u8 v27_) := c28_
      have v27_w : IntKind.i64.wrap v27_ = v27_ := IntWalk.i64_in _ (by omega)
      have c28_i : 0 < (ds.length : Int) := by omega
      obtain ⟨R29_, hR29_⟩ : ∃ R, v27_ % ((2 ^ n) : Int) = R := ⟨_, rfl⟩
      have bR29_1 := Int.emod_nonneg v27_ (show ¬ ((2 ^ n) : Int) = 0 by omega)
      have bR29_2 := Int.emod_lt_of_pos v27_ (show 0 < ((2 ^ n) : Int) by omega)
      rw [hR29_] at bR29_1 bR29_2
      have zR29_ : (((2 ^ n) : Int) == 0) = false := by simp only [beq_eq_false_iff_ne]; omega
      have yR29_ : (((2 ^ n) : Int) = 0) = False := eq_false (by omega)
      have qR29_ : IntKind.i64.wrap (v27_.tmod ((2 ^ n) : Int)) = R29_ := by rw [Int.tmod_eq_emod_of_nonneg (by omega), hR29_]; exact IntWalk.i64_in _ (by omega)
      have pR29_ : v27_.tmod ((2 ^ n) : Int) = R29_ := by rw [Int.tmod_eq_emod_of_nonneg (by omega), hR29_]
      have hw30_ : IntKind.i64.wrap (2 ^ n) = (2 ^ n) := IntWalk.i64_in _ (by omega)
      go_wp2
      go_quiet (fail)
      obtain ⟨w31, hw31⟩ : ∃ x, x = w17.drewN nq := ⟨_, rfl⟩
      have hb32_ : Below w17.heap.size w17 w31 := by rw [hw31]; exact below_drewN (Below.refl _ _) _
      rw [← hw31]
      clear hw31
      clear hw30_
      have o34_ := o18_.below hb32_ (by first | omega | (simp; omega) | simp)
      have o35_ := o19_.below hb32_ (by first | omega | (simp; omega) | simp)
      have o36_ := o20_.below hb32_ (by first | omega | (simp; omega) | simp)
      have z37_ := hb32_.size
      have B38_ := B22_.trans (hb32_.mono (by first | omega | (simp; omega) | simp))
      clear hb32_
      go_wp2_with fail
      refine (implPassWorth_any (n : Int) (some ⟨g1, o1, none⟩) c4_ vs R29_ _ _ _ o36_.ints (by first | omega | (simp; omega) | simp) (by omega)).mono ?_
      rintro e w39 ⟨he, hb39_⟩
      obtain ⟨v40_, hv40_⟩ : ∃ v, passW (n : Int) vs R29_ = v := ⟨_, rfl⟩
      rw [hv40_] at he
      subst he
      have bv40_ : -1 ≤ v40_ ∧ v40_ ≤ 6 := by rw [← hv40_]; exact passW_rg _ _ _
      obtain ⟨bv40_1, bv40_2⟩ := bv40_
      have Hv40_ := Lib.hid hv40_
      clear hv40_
      have o41_ := o34_.below hb39_ (by first | omega | (simp; omega) | simp)
      have o42_ := o35_.below hb39_ (by first | omega | (simp; omega) | simp)
      have o43_ := o36_.below hb39_ (by first | omega | (simp; omega) | simp)
      have z44_ := hb39_.size
      have B45_ := B38_.trans (hb39_.mono (by first | omega | (simp; omega) | simp))
      clear hb39_
      go_wp2_with fail
      refine (implPassWorth_any (n : Int) (some ⟨g1, o1, none⟩) c4_ vs (bits .or .i64 s R29_) _ _ _ o43_.ints (by first | omega | (simp; omega) | simp) (by omega)).mono ?_
      rintro e w46 ⟨he, hb46_⟩
      obtain ⟨v47_, hv47_⟩ : ∃ v, passW (n : Int) vs (bits .or .i64 s R29_) = v := ⟨_, rfl⟩
      rw [hv47_] at he
      subst he
      have bv47_ : -1 ≤ v47_ ∧ v47_ ≤ 6 := by rw [← hv47_]; exact passW_rg _ _ _
      obtain ⟨bv47_1, bv47_2⟩ := bv47_
      have Hv47_ := Lib.hid hv47_
      clear hv47_
      have o48_ := o41_.below hb46_ (by first | omega | (simp; omega) | simp)
      have o49_ := o42_.below hb46_ (by first | omega | (simp; omega) | simp)
      have o50_ := o43_.below hb46_ (by first | omega | (simp; omega) | simp)
      have z51_ := hb46_.size
      have B52_ := B45_.trans (hb46_.mono (by first | omega | (simp; omega) | simp))
      clear hb46_
      go_wp2_with fail
      refine (implPassWorth_any (n : Int) (some ⟨g1, o1, none⟩) c4_ vs (bits .and .i64 s R29_) _ _ _ o50_.ints (by first | omega | (simp; omega) | simp) (by omega)).mono ?_
      rintro e w53 ⟨he, hb53_⟩
      obtain ⟨v54_, hv54_⟩ : ∃ v, passW (n : Int) vs (bits .and .i64 s R29_) = v := ⟨_, rfl⟩
      rw [hv54_] at he
      subst he
      have bv54_ : -1 ≤ v54_ ∧ v54_ ≤ 6 := by rw [← hv54_]; exact passW_rg _ _ _
      obtain ⟨bv54_1, bv54_2⟩ := bv54_
      have Hv54_ := Lib.hid hv54_
      clear hv54_
      have o55_ := o48_.below hb53_ (by first | omega | (simp; omega) | simp)
      have o56_ := o49_.below hb53_ (by first | omega | (simp; omega) | simp)
      have o57_ := o50_.below hb53_ (by first | omega | (simp; omega) | simp)
      have z58_ := hb53_.size
      have B59_ := B52_.trans (hb53_.mono (by first | omega | (simp; omega) | simp))
      clear hb53_
      have h60_ : (v11_ + v40_) ≤ (v47_ + v54_) := by rw [← Hv11_.out, ← Hv40_.out, ← Hv47_.out, ← Hv54_.out]; exact passW_super HVB.out ⟨hs0, hs1⟩ ⟨by omega, by omega⟩
      have h60_d : decide ((v11_ + v40_) ≤ (v47_ + v54_)) = true := decide_eq_true h60_
      go_wp2_with fail
      refine (implPassWorth_any (n : Int) (some ⟨g1, o1, none⟩) c4_ vs 0 _ _ _ o57_.ints (by first | omega | (simp; omega) | simp) (by omega)).mono ?_
      rintro e w61 ⟨he, hb61_⟩
      obtain ⟨v62_, hv62_⟩ : ∃ v, passW (n : Int) vs 0 = v := ⟨_, rfl⟩
      rw [hv62_] at he
      subst he
      have bv62_ : -1 ≤ v62_ ∧ v62_ ≤ 6 := by rw [← hv62_]; exact passW_rg _ _ _
      obtain ⟨bv62_1, bv62_2⟩ := bv62_
      have Hv62_ := Lib.hid hv62_
      clear hv62_
      have o63_ := o55_.below hb61_ (by first | omega | (simp; omega) | simp)
      have o64_ := o56_.below hb61_ (by first | omega | (simp; omega) | simp)
      have o65_ := o57_.below hb61_ (by first | omega | (simp; omega) | simp)
      have z66_ := hb61_.size
      have B67_ := B59_.trans (hb61_.mono (by first | omega | (simp; omega) | simp))
      clear hb61_
      have h68_ : v62_ = 0 := by rw [← Hv62_.out]; exact passW_none HVB.out
      have h68_b : (v62_ == 0) = true := by simpa using h68_
      have h68_n : (v62_ != 0) = false := by simpa using h68_
      have h68_le : v62_ ≤ 0 := by omega
      have h68_ge : 0 ≤ v62_ := by omega
      have Hh68_ := Lib.hid h68_
      clear h68_
      go_wp2
      go_ret
      exact ⟨ret_bool (by first | exact rfl | exact h68_b.trans rfl), B67_⟩
    · have h24_d : decide ((ds.length : Int) > 0) = false := decide_eq_false h24_
      go_wp2_with fail
      refine (implPassWorth_any (n : Int) (some ⟨g1, o1, none⟩) c4_ vs 0 _ _ _ o20_.ints (by first | omega | (simp; omega) | simp) (by omega)).mono ?_
      rintro e w25 ⟨he, hb25_⟩
      obtain ⟨v26_, hv26_⟩ : ∃ v, passW (n : Int) vs 0 = v := ⟨_, rfl⟩
      rw [hv26_] at he
      subst he
      have bv26_ : -1 ≤ v26_ ∧ v26_ ≤ 6 := by rw [← hv26_]; exact passW_rg _ _ _
      obtain ⟨bv26_1, bv26_2⟩ := bv26_
      have Hv26_ := Lib.hid hv26_
      clear hv26_
      have o27_ := o18_.below hb25_ (by first | omega | (simp; omega) | simp)
      have o28_ := o19_.below hb25_ (by first | omega | (simp; omega) | simp)
      have o29_ := o20_.below hb25_ (by first | omega | (simp; omega) | simp)
      have z30_ := hb25_.size
      have B31_ := B22_.trans (hb25_.mono (by first | omega | (simp; omega) | simp))
      clear hb25_
      go_wp2_with fail
      refine (implPassWorth_any (n : Int) (some ⟨g1, o1, none⟩) c4_ vs (bits .or .i64 s 0) _ _ _ o29_.ints (by first | omega | (simp; omega) | simp) (by omega)).mono ?_
      rintro e w32 ⟨he, hb32_⟩
      obtain ⟨v33_, hv33_⟩ : ∃ v, passW (n : Int) vs (bits .or .i64 s 0) = v := ⟨_, rfl⟩
      rw [hv33_] at he
      subst he
      have bv33_ : -1 ≤ v33_ ∧ v33_ ≤ 6 := by rw [← hv33_]; exact passW_rg _ _ _
      obtain ⟨bv33_1, bv33_2⟩ := bv33_
      have Hv33_ := Lib.hid hv33_
      clear hv33_
      have o34_ := o27_.below hb32_ (by first | omega | (simp; omega) | simp)
      have o35_ := o28_.below hb32_ (by first | omega | (simp; omega) | simp)
      have o36_ := o29_.below hb32_ (by first | omega | (simp; omega) | simp)
      have z37_ := hb32_.size
      have B38_ := B31_.trans (hb32_.mono (by first | omega | (simp; omega) | simp))
      clear hb32_
      go_wp2_with fail
      refine (implPassWorth_any (n : Int) (some ⟨g1, o1, none⟩) c4_ vs (bits .and .i64 s 0) _ _ _ o36_.ints (by first | omega | (simp; omega) | simp) (by omega)).mono ?_
      rintro e w39 ⟨he, hb39_⟩
      obtain ⟨v40_, hv40_⟩ : ∃ v, passW (n : Int) vs (bits .and .i64 s 0) = v := ⟨_, rfl⟩
      rw [hv40_] at he
      subst he
      have bv40_ : -1 ≤ v40_ ∧ v40_ ≤ 6 := by rw [← hv40_]; exact passW_rg _ _ _
      obtain ⟨bv40_1, bv40_2⟩ := bv40_
      have Hv40_ := Lib.hid hv40_
      clear hv40_
      have o41_ := o34_.below hb39_ (by first | omega | (simp; omega) | simp)
      have o42_ := o35_.below hb39_ (by first | omega | (simp; omega) | simp)
      have o43_ := o36_.below hb39_ (by first | omega | (simp; omega) | simp)
      have z44_ := hb39_.size
      have B45_ := B38_.trans (hb39_.mono (by first | omega | (simp; omega) | simp))
      clear hb39_
      have h46_ : (v11_ + v26_) ≤ (v33_ + v40_) := by rw [← Hv11_.out, ← Hv26_.out, ← Hv33_.out, ← Hv40_.out]; exact passW_super HVB.out ⟨hs0, hs1⟩ ⟨by omega, by omega⟩
      have h46_d : decide ((v11_ + v26_) ≤ (v33_ + v40_)) = true := decide_eq_true h46_
      go_wp2_with fail
      refine (implPassWorth_any (n : Int) (some ⟨g1, o1, none⟩) c4_ vs 0 _ _ _ o43_.ints (by first | omega | (simp; omega) | simp) (by omega)).mono ?_
      rintro e w47 ⟨he, hb47_⟩
      rw [Hv26_.out] at he
      subst he
      have o48_ := o41_.below hb47_ (by first | omega | (simp; omega) | simp)
      have o49_ := o42_.below hb47_ (by first | omega | (simp; omega) | simp)
      have o50_ := o43_.below hb47_ (by first | omega | (simp; omega) | simp)
      have z51_ := hb47_.size
      have B52_ := B45_.trans (hb47_.mono (by first | omega | (simp; omega) | simp))
      clear hb47_
      have h53_ : v26_ = 0 := by rw [← Hv26_.out]; exact passW_none HVB.out
      have h53_b : (v26_ == 0) = true := by simpa using h53_
      have h53_n : (v26_ != 0) = false := by simpa using h53_
      have h53_le : v26_ ≤ 0 := by omega
      have h53_ge : 0 ≤ v26_ := by omega
      have Hh53_ := Lib.hid h53_
      clear h53_
      go_wp2
      go_ret
      exact ⟨ret_bool (by first | exact rfl | exact h53_b.trans rfl), B52_⟩

set_option maxRecDepth 10000 in
set_option maxHeartbeats 400000 in
theorem fnPassWorth_big (A0 : Option Addr) (c0 : Nat) (bs : List Int) (B0 : Option Addr) (d0 : Nat) (ds : List Int) (w : World) (hl : ¬ bs.length ≤ 1048576) (hm : bs.length ≤ 9223372036854775807) :
    Calls Try.prog 5 #[.slice A0 bs.length c0, .slice B0 ds.length d0] w fun e w' => e = .returned (.bool true) ∧ Below w.heap.size w w' := by
  go_enter Try.func5, Try.ntmps5
  go_wp2
  go_ret
  exact ⟨rfl, Below.refl _ _⟩

set_option maxRecDepth 10000 in
set_option maxHeartbeats 400000 in
theorem fnPassWorth_big2 (A0 : Option Addr) (c0 : Nat) (bs : List Int) (B0 : Option Addr) (d0 : Nat) (ds : List Int) (w : World) (hl : bs.length ≤ 1048576) (hl1 : ¬ ds.length ≤ 1048576) (hm : ds.length ≤ 9223372036854775807) :
    Calls Try.prog 5 #[.slice A0 bs.length c0, .slice B0 ds.length d0] w fun e w' => e = .returned (.bool true) ∧ Below w.heap.size w w' := by
  go_enter Try.func5, Try.ntmps5
  go_wp2
  go_ret
  exact ⟨rfl, Below.refl _ _⟩

theorem fnPassWorth_all (A0 : Option Addr) (c0 : Nat) (bs : List Int) (B0 : Option Addr) (d0 : Nat) (ds : List Int) (w : World) (h0 : Bytes w w.heap.size A0 bs) (h1 : Bytes w w.heap.size B0 ds) (hm : bs.length ≤ 9223372036854775807) (hm1 : ds.length ≤ 9223372036854775807) (hc0 : bs.length ≤ c0) (hd0 : ds.length ≤ d0) :
    Calls Try.prog 5 #[.slice A0 bs.length c0, .slice B0 ds.length d0] w fun e w' => e = .returned (.bool true) ∧ Below w.heap.size w w' := by
  by_cases hl : bs.length ≤ 1048576
  · by_cases hl1 : ds.length ≤ 1048576
    · exact fnPassWorth_walk A0 c0 bs B0 d0 ds w h0 h1 hl hl1 hc0 hd0
    · exact fnPassWorth_big2 A0 c0 bs B0 d0 ds w hl hl1 hm1
  · exact fnPassWorth_big A0 c0 bs B0 d0 ds w hl hm

end Go.Proofs.Ytdbohnaohinieaa
