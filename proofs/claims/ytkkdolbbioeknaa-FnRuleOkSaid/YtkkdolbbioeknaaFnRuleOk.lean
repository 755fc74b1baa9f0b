/-
  The law of RuleOk returns true for every code, and writes nothing that was there. No condition.
-/
import Derived.Test.YtkkdolbbioeknaaGA
import Derived.Test.YtkkdolbbioeknaaDraw8
import Derived.Test.YtkkdolbbioeknaaRuleLaw
import Derived.Test.YtkkdolbbioeknaaGame8I
import Derived.Test.YtkkdolbbioeknaaGC
import Derived.Test.YtkkdolbbioeknaaFx
import Derived.Deep.RegionHeld3
namespace Go.Proofs.Ytkkdolbbioeknaa
open Go.RowKit

set_option maxRecDepth 10000 in
set_option maxHeartbeats 2000000 in
theorem fnRuleOk_walk (A0 : Option Addr) (c0 : Nat) (bs : List Int) (w : World) (h0 : Bytes w w.heap.size A0 bs) (hl : bs.length ≤ 1048576) (hc0 : bs.length ≤ c0) :
    Calls Try.prog 3 #[.slice A0 bs.length c0] w fun e w' => e = .returned (.bool true) ∧ Below w.heap.size w w' := by
  have hlm : bs.length ≤ 9223372036854775807 := by omega
  go_enter Try.func3, Try.ntmps3
  have Htrue : Hid True := trivial
  have hc0u := hc0
  have h0u := h0
  have hlmu := hlm
  have hS1 := S_size
  have hS2 : ∀ (l : List UInt8) (k : Nat) (h : k < (S l).size), (S l)[k]'h = l[k]'(by rw [S_size] at h; exact h) := fun _ _ h => S_at2 h
  have hK0 : ({ data := #[100] } : ByteArray) = S [100] := rfl
  have hK1 : ({ data := #[101] } : ByteArray) = S [101] := rfl
  have hK2 : ({ data := #[104] } : ByteArray) = S [104] := rfl
  have hK3 : ({ data := #[108] } : ByteArray) = S [108] := rfl
  have hK4 : ({ data := #[97] } : ByteArray) = S [97] := rfl
  go_wp2_with fail
  refine (drawRuleOk_any A0 c0 bs _ (h0.more (by first | omega | (simp; omega) | simp)) hlm hc0).mono ?_
  rintro e w1 ⟨l, hl9, rfl, hb2_⟩
  have o3_ := h0.below hb2_ (by first | omega | (simp; omega) | simp)
  have z4_ := hb2_.size
  have B5_ := (Below.refl w.heap.size w).trans (hb2_.mono (by first | omega | (simp; omega) | simp))
  clear hb2_
  have hlb : l.length ≤ 1152921504606846976 := by omega
  by_cases h6_ : ruleB l = true
  · have H6_ := Lib.hid h6_
    clear h6_
    go_wp2_with fail
    refine (implRuleOk_any l _ (by first | omega | (simp; omega) | simp)).mono ?_
    rintro e w7 ⟨he, hb7_⟩
    rw [H6_.out] at he
    subst he
    have o8_ := o3_.below hb7_ (by first | omega | (simp; omega) | simp)
    have z9_ := hb7_.size
    have B10_ := B5_.trans (hb7_.mono (by first | omega | (simp; omega) | simp))
    clear hb7_
    go_wp2_with fail
    refine (specRuleOk_any l _ (by first | omega | (simp; omega) | simp)).mono ?_
    rintro e w' ⟨he, rfl⟩
    rw [H6_.out] at he
    subst he
    have H11_ : Hid (ruleB ([101] : List UInt8) = true) := rfl
    go_wp2_with fail
    refine (implRuleOk_any ([101] : List UInt8) _ (by first | omega | (simp; omega) | simp)).mono ?_
    rintro e w12 ⟨he, hb12_⟩
    rw [H11_.out] at he
    subst he
    have o13_ := o8_.below hb12_ (by first | omega | (simp; omega) | simp)
    have z14_ := hb12_.size
    have B15_ := B10_.trans (hb12_.mono (by first | omega | (simp; omega) | simp))
    clear hb12_
    have H16_ : Hid (ruleB ([108] : List UInt8) = true) := rfl
    go_wp2_with fail
    refine (implRuleOk_any ([108] : List UInt8) _ (by first | omega | (simp; omega) | simp)).mono ?_
    rintro e w17 ⟨he, hb17_⟩
    rw [H16_.out] at he
    subst he
    have o18_ := o13_.below hb17_ (by first | omega | (simp; omega) | simp)
    have z19_ := hb17_.size
    have B20_ := B15_.trans (hb17_.mono (by first | omega | (simp; omega) | simp))
    clear hb17_
    have H21_ : Hid (ruleB ([104] : List UInt8) = true) := rfl
    go_wp2_with fail
    refine (implRuleOk_any ([104] : List UInt8) _ (by first | omega | (simp; omega) | simp)).mono ?_
    rintro e w22 ⟨he, hb22_⟩
    rw [H21_.out] at he
    subst he
    have o23_ := o18_.below hb22_ (by first | omega | (simp; omega) | simp)
    have z24_ := hb22_.size
    have B25_ := B20_.trans (hb22_.mono (by first | omega | (simp; omega) | simp))
    clear hb22_
    have H26_ : Hid (ruleB ([97] : List UInt8) = true) := rfl
    go_wp2_with fail
    refine (implRuleOk_any ([97] : List UInt8) _ (by first | omega | (simp; omega) | simp)).mono ?_
    rintro e w27 ⟨he, hb27_⟩
    rw [H26_.out] at he
    subst he
    have o28_ := o23_.below hb27_ (by first | omega | (simp; omega) | simp)
    have z29_ := hb27_.size
    have B30_ := B25_.trans (hb27_.mono (by first | omega | (simp; omega) | simp))
    clear hb27_
    have H31_ : Hid (ruleB ([100] : List UInt8) = false) := rfl
    go_wp2_with fail
    refine (implRuleOk_any ([100] : List UInt8) _ (by first | omega | (simp; omega) | simp)).mono ?_
    rintro e w32 ⟨he, hb32_⟩
    rw [H31_.out] at he
    subst he
    have o33_ := o28_.below hb32_ (by first | omega | (simp; omega) | simp)
    have z34_ := hb32_.size
    have B35_ := B30_.trans (hb32_.mono (by first | omega | (simp; omega) | simp))
    clear hb32_
    by_cases h36_ : (l.length : Int) ≥ 8
    · have h36_d : decide ((l.length : Int) ≥ 8) = true := decide_eq_true h36_
      go_wp2
      go_ret
      exact ⟨ret_bool (by first | exact rfl | exact (decide_eq_true (by omega)).trans rfl), B35_⟩
    · have h36_d : decide ((l.length : Int) ≥ 8) = false := decide_eq_false h36_
      have hx37_ : Op.stringOp .add (S l) (S ([100] : List UInt8)) = pure (.string (S (l ++ ([100] : List UInt8)))) := S_add (by first | omega | (simp; omega))
      have H38_ : Hid (ruleB (l ++ ([100] : List UInt8)) = true) := ruleB_snoc H6_.out (by omega) rfl
      go_wp2_with fail
      refine (implRuleOk_any (l ++ ([100] : List UInt8)) _ (by first | omega | (simp; omega) | simp)).mono ?_
      rintro e w39 ⟨he, hb39_⟩
      rw [H38_.out] at he
      subst he
      have o40_ := o33_.below hb39_ (by first | omega | (simp; omega) | simp)
      have z41_ := hb39_.size
      have B42_ := B35_.trans (hb39_.mono (by first | omega | (simp; omega) | simp))
      clear hb39_
      go_wp2
      go_ret
      exact ⟨ret_bool (by first | exact rfl | exact (decide_eq_false (by omega)).trans rfl), B42_⟩
  · have H6_ : Hid (ruleB l = false) := by show _ = _; simpa using h6_
    clear h6_
    go_wp2_with fail
    refine (implRuleOk_any l _ (by first | omega | (simp; omega) | simp)).mono ?_
    rintro e w7 ⟨he, hb7_⟩
    rw [H6_.out] at he
    subst he
    have o8_ := o3_.below hb7_ (by first | omega | (simp; omega) | simp)
    have z9_ := hb7_.size
    have B10_ := B5_.trans (hb7_.mono (by first | omega | (simp; omega) | simp))
    clear hb7_
    go_wp2_with fail
    refine (specRuleOk_any l _ (by first | omega | (simp; omega) | simp)).mono ?_
    rintro e w' ⟨he, rfl⟩
    rw [H6_.out] at he
    subst he
    have H11_ : Hid (ruleB ([101] : List UInt8) = true) := rfl
    go_wp2_with fail
    refine (implRuleOk_any ([101] : List UInt8) _ (by first | omega | (simp; omega) | simp)).mono ?_
    rintro e w12 ⟨he, hb12_⟩
    rw [H11_.out] at he
    subst he
    have o13_ := o8_.below hb12_ (by first | omega | (simp; omega) | simp)
    have z14_ := hb12_.size
    have B15_ := B10_.trans (hb12_.mono (by first | omega | (simp; omega) | simp))
    clear hb12_
    have H16_ : Hid (ruleB ([108] : List UInt8) = true) := rfl
    go_wp2_with fail
    refine (implRuleOk_any ([108] : List UInt8) _ (by first | omega | (simp; omega) | simp)).mono ?_
    rintro e w17 ⟨he, hb17_⟩
    rw [H16_.out] at he
    subst he
    have o18_ := o13_.below hb17_ (by first | omega | (simp; omega) | simp)
    have z19_ := hb17_.size
    have B20_ := B15_.trans (hb17_.mono (by first | omega | (simp; omega) | simp))
    clear hb17_
    have H21_ : Hid (ruleB ([104] : List UInt8) = true) := rfl
    go_wp2_with fail
    refine (implRuleOk_any ([104] : List UInt8) _ (by first | omega | (simp; omega) | simp)).mono ?_
    rintro e w22 ⟨he, hb22_⟩
    rw [H21_.out] at he
    subst he
    have o23_ := o18_.below hb22_ (by first | omega | (simp; omega) | simp)
    have z24_ := hb22_.size
    have B25_ := B20_.trans (hb22_.mono (by first | omega | (simp; omega) | simp))
    clear hb22_
    have H26_ : Hid (ruleB ([97] : List UInt8) = true) := rfl
    go_wp2_with fail
    refine (implRuleOk_any ([97] : List UInt8) _ (by first | omega | (simp; omega) | simp)).mono ?_
    rintro e w27 ⟨he, hb27_⟩
    rw [H26_.out] at he
    subst he
    have o28_ := o23_.below hb27_ (by first | omega | (simp; omega) | simp)
    have z29_ := hb27_.size
    have B30_ := B25_.trans (hb27_.mono (by first | omega | (simp; omega) | simp))
    clear hb27_
    have H31_ : Hid (ruleB ([100] : List UInt8) = false) := rfl
    go_wp2_with fail
    refine (implRuleOk_any ([100] : List UInt8) _ (by first | omega | (simp; omega) | simp)).mono ?_
    rintro e w32 ⟨he, hb32_⟩
    rw [H31_.out] at he
    subst he
    have o33_ := o28_.below hb32_ (by first | omega | (simp; omega) | simp)
    have z34_ := hb32_.size
    have B35_ := B30_.trans (hb32_.mono (by first | omega | (simp; omega) | simp))
    clear hb32_
    go_wp2
    go_ret
    exact ⟨ret_bool rfl, B35_⟩

set_option maxRecDepth 10000 in
set_option maxHeartbeats 400000 in
theorem fnRuleOk_big (A0 : Option Addr) (c0 : Nat) (bs : List Int) (w : World) (hl : ¬ bs.length ≤ 1048576) (hm : bs.length ≤ 9223372036854775807) :
    Calls Try.prog 3 #[.slice A0 bs.length c0] w fun e w' => e = .returned (.bool true) ∧ Below w.heap.size w w' := by
  go_enter Try.func3, Try.ntmps3
  go_wp2
  go_ret
  exact ⟨rfl, Below.refl _ _⟩

theorem fnRuleOk_all (A0 : Option Addr) (c0 : Nat) (bs : List Int) (w : World) (h0 : Bytes w w.heap.size A0 bs) (hm : bs.length ≤ 9223372036854775807) (hc0 : bs.length ≤ c0) :
    Calls Try.prog 3 #[.slice A0 bs.length c0] w fun e w' => e = .returned (.bool true) ∧ Below w.heap.size w w' := by
  by_cases hl : bs.length ≤ 1048576
  · exact fnRuleOk_walk A0 c0 bs w h0 hl hc0
  · exact fnRuleOk_big A0 c0 bs w hl hm

end Go.Proofs.Ytkkdolbbioeknaa
