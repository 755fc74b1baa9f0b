/-
  The law of short rules returns true for every code, and writes nothing that was there. No condition.
-/
import Derived.Test.YtkkdolbbioeknaaGA
import Derived.Test.YtkkdolbbioeknaaDraw8
import Derived.Test.YtkkdolbbioeknaaRuleLaw
import Derived.Test.YtkkdolbbioeknaaGame8I
import Derived.Test.YtkkdolbbioeknaaGC
import Derived.Test.YtkkdolbbioeknaaFx
import Derived.Deep.RegionHeld3
namespace Go.Proofs.Ytkkdolbbioeknaa
open Go.RowKit

set_option maxRecDepth 10000 in
set_option maxHeartbeats 2000000 in
theorem fnRuleShort_walk (A0 : Option Addr) (c0 : Nat) (bs : List Int) (w : World) (h0 : Bytes w w.heap.size A0 bs) (hl : bs.length ≤ 1048576) (hc0 : bs.length ≤ c0) :
    Calls Try.prog 6 #[.slice A0 bs.length c0] w fun e w' => e = .returned (.bool true) ∧ Below w.heap.size w w' := by
  have hlm : bs.length ≤ 9223372036854775807 := by omega
  go_enter Try.func6, Try.ntmps6
  have Htrue : Hid True := trivial
  have hc0u := hc0
  have h0u := h0
  have hlmu := hlm
  have hS1 := S_size
  have hS2 : ∀ (l : List UInt8) (k : Nat) (h : k < (S l).size), (S l)[k]'h = l[k]'(by rw [S_size] at h; exact h) := fun _ _ h => S_at2 h
  have hK0 : ({ data := #[] } : ByteArray) = S [] := rfl
  have hK1 : ({ data := #[100] } : ByteArray) = S [100] := rfl
  have hK2 : ({ data := #[101] } : ByteArray) = S [101] := rfl
  have hK3 : ({ data := #[108] } : ByteArray) = S [108] := rfl
  go_wp2_with fail
  refine (drawSimplerRule_any A0 c0 bs _ (h0.more (by first | omega | (simp; omega) | simp)) hlm hc0).mono ?_
  rintro e w1 ⟨l, hl9, rfl, hb2_⟩
  have o3_ := h0.below hb2_ (by first | omega | (simp; omega) | simp)
  have z4_ := hb2_.size
  have B5_ := (Below.refl w.heap.size w).trans (hb2_.mono (by first | omega | (simp; omega) | simp))
  clear hb2_
  have hlb : l.length ≤ 1152921504606846976 := by omega
  by_cases h6_ : ruleB l = true
  · have H6_ := Lib.hid h6_
    clear h6_
    have hrl := rule_letters H6_.out
    have hl1 := hrl.2.1
    have hl8 := hrl.2.2
    clear hrl
    go_wp2_with fail
    refine (specRuleOk_any l _ (by first | omega | (simp; omega) | simp)).mono ?_
    rintro e w' ⟨he, rfl⟩
    rw [H6_.out] at he
    subst he
    have hx7_l : (1 : Int) ≤ (l.length : Int) := by omega
    have hx7_g : (0 : Int) ≤ (1 : Int) := by omega
    have hx7_ := S_front (l := l) (m := 1)
    go_wp2
    go_loopw [4, 5, 6] (fun s tt i wr => ∃ m : List UInt8, ∃ t : Nat, ∃ k : Nat, s = .string (S m) ∧ tt = .int .i64 t ∧ i = .int .i64 k ∧ (m = l.take 1 ++ List.replicate t 100) ∧ (t + 1 ≤ k) ∧ (k ≤ l.length) ∧ (m.length ≤ t + 1) ∧ Below w.heap.size w wr ∧ w1.heap.size ≤ wr.heap.size ∧ Bytes wr (w.heap.size) A0 bs) (fun s tt i _ => l.length - (intOf i).toNat)
    case atStart => exact ⟨l.take 1, 0, 1, rfl, rfl, rfl, by simp, by omega, by omega, by simp; omega, B5_, (by first | omega | (simp; omega) | simp), o3_⟩
    case round =>
      obtain ⟨m, t, k, rfl, rfl, rfl, hm, htk, hk, hml, k9_, k10_, k11_⟩ := hrel
      obtain ⟨w8, rfl⟩ : ∃ x, x = wr := ⟨_, rfl⟩
      have HM := Lib.hid hm
      clear hm
      by_cases hlt0 : k < l.length
      · have v12_i : (k : Int) < (l.length : Int) := by omega
        have v12_j : (0 : Int) ≤ (k : Int) := by omega
        have v12_k : k < l.length := by omega
        have bv12_ := byte_bd (l[k]'v12_k)
        obtain ⟨v12_, hv12_⟩ : ∃ v : Int, (((l[k]'v12_k).toNat : Nat) : Int) = v := ⟨_, rfl⟩
        rw [hv12_] at bv12_
        obtain ⟨bv12_1, bv12_2⟩ := bv12_
        have Gv12_ : Hid (((l.getD k 0).toNat : Int) = v12_) := by show _ = _; rw [getD_byte l v12_k]; exact hv12_
        by_cases h13_ : v12_ = 100
        · have h13_b : (v12_ == 100) = true := by simpa using h13_
          have h13_n : (v12_ != 100) = false := by simpa using h13_
          have h13_le : v12_ ≤ 100 := by omega
          have h13_ge : 100 ≤ v12_ := by omega
          have Hh13_ := Lib.hid h13_
          clear h13_
          have hx14_ : Op.stringOp .add (S m) (S ([100] : List UInt8)) = pure (.string (S (m ++ ([100] : List UInt8)))) := S_add (by first | omega | (simp; omega))
          go_wp2
          go_roundw
          case rel => exact ⟨(m ++ ([100] : List UInt8)), t + 1, k + 1, by rfl, by go_num, by go_num, by rw [HM.out, List.append_assoc]; congr 1; exact (List.replicate_succ' (n := t) (a := (100 : UInt8))).symm, by omega, by omega, by simp; omega, k9_, (by first | omega | (simp; omega) | simp), k11_⟩
          case measure => simp [intOf] <;> omega
        · have h13_b : (v12_ == 100) = false := by simpa using h13_
          have h13_n : (v12_ != 100) = true := by simpa using h13_
          go_wp2
          go_roundw
          case rel => exact ⟨m, t, k + 1, rfl, by go_num, by go_num, HM.out, by omega, by omega, by omega, k9_, (by first | omega | (simp; omega) | simp), k11_⟩
          case measure => simp [intOf] <;> omega
      · obtain rfl : k = l.length := by omega
        have hx12_l : (1 : Int) ≤ (l.length : Int) := by omega
        have hx12_g : (0 : Int) ≤ (1 : Int) := by omega
        have hx12_ := S_front (l := l) (m := 1)
        have hq13_ : IntKind.i64.wrap ((t : Int).tmod 2) = (t : Int) % 2 := by rw [Int.tmod_eq_emod_of_nonneg (by omega)]; exact IntWalk.i64_in _ (by omega)
        by_cases h14_ : ((t : Int) % 2) = 1
        · have h14_b : (((t : Int) % 2) == 1) = true := by simpa using h14_
          have h14_n : (((t : Int) % 2) != 1) = false := by simpa using h14_
          have h14_le : ((t : Int) % 2) ≤ 1 := by omega
          have h14_ge : 1 ≤ ((t : Int) % 2) := by omega
          have Hh14_ := Lib.hid h14_
          clear h14_
          by_cases h15_ : (l.take 1) = ([101] : List UInt8)
          · have h15_b : ((S (l.take 1)).toList == (S ([101] : List UInt8)).toList) = true := by rw [S_eq]; exact decide_eq_true h15_
            have Hh15_ := Lib.hid h15_
            clear h15_
            go_wp2_with fail
            refine (alive_any _).mono ?_
            rintro e w16 ⟨rfl, hb16_⟩
            have o17_ := k11_.below hb16_ (by first | omega | (simp; omega) | simp)
            have z18_ := hb16_.size
            have B19_ := k9_.trans (hb16_.mono (by first | omega | (simp; omega) | simp))
            clear hb16_
            go_wp2_with fail
            refine (implSimplerRule_any m _ (by first | omega | (simp; omega) | simp)).mono ?_
            rintro e w20 ⟨he, hb20_⟩
            obtain ⟨l21_, hl21_⟩ : ∃ y_, simpL m = y_ := ⟨_, rfl⟩
            rw [hl21_] at he
            subst he
            have Hl21_ := Lib.hid hl21_
            clear hl21_
            have o22_ := o17_.below hb20_ (by first | omega | (simp; omega) | simp)
            have z23_ := hb20_.size
            have B24_ := B19_.trans (hb20_.mono (by first | omega | (simp; omega) | simp))
            clear hb20_
            have h25_ : l21_ = ([108] : List UInt8) := by rw [← Hl21_.out]; exact short_e H6_.out (t := t) (by omega) HM.out Hh14_.out Hh15_.out
            have h25_b : ((S l21_).toList == (S ([108] : List UInt8)).toList) = true := by rw [S_eq]; exact decide_eq_true h25_
            have Hh25_ := Lib.hid h25_
            clear h25_
            go_wp2
            go_ret
            exact ⟨ret_bool (by first | exact rfl | exact h25_b.trans rfl), B24_⟩
          · have h15_b : ((S (l.take 1)).toList == (S ([101] : List UInt8)).toList) = false := by rw [S_eq]; exact decide_eq_false h15_
            have hq16_ : IntKind.i64.wrap ((t : Int).tmod 2) = (t : Int) % 2 := by rw [Int.tmod_eq_emod_of_nonneg (by omega)]; exact IntWalk.i64_in _ (by omega)
            have h17_ : ((t : Int) % 2) = 1 := Hh14_.out
            have h17_b : (((t : Int) % 2) == 1) = true := by simpa using h17_
            have h17_n : (((t : Int) % 2) != 1) = false := by simpa using h17_
            have h17_le : ((t : Int) % 2) ≤ 1 := by omega
            have h17_ge : 1 ≤ ((t : Int) % 2) := by omega
            have Hh17_ := Lib.hid h17_
            clear h17_
            by_cases h18_ : (l.take 1) = ([108] : List UInt8)
            · have h18_b : ((S (l.take 1)).toList == (S ([108] : List UInt8)).toList) = true := by rw [S_eq]; exact decide_eq_true h18_
              have Hh18_ := Lib.hid h18_
              clear h18_
              go_wp2_with fail
              refine (alive_any _).mono ?_
              rintro e w19 ⟨rfl, hb19_⟩
              have o20_ := k11_.below hb19_ (by first | omega | (simp; omega) | simp)
              have z21_ := hb19_.size
              have B22_ := k9_.trans (hb19_.mono (by first | omega | (simp; omega) | simp))
              clear hb19_
              go_wp2_with fail
              refine (implSimplerRule_any m _ (by first | omega | (simp; omega) | simp)).mono ?_
              rintro e w23 ⟨he, hb23_⟩
              obtain ⟨l24_, hl24_⟩ : ∃ y_, simpL m = y_ := ⟨_, rfl⟩
              rw [hl24_] at he
              subst he
              have Hl24_ := Lib.hid hl24_
              clear hl24_
              have o25_ := o20_.below hb23_ (by first | omega | (simp; omega) | simp)
              have z26_ := hb23_.size
              have B27_ := B22_.trans (hb23_.mono (by first | omega | (simp; omega) | simp))
              clear hb23_
              have h28_ : l24_ = ([101] : List UInt8) := by rw [← Hl24_.out]; exact short_l H6_.out (t := t) (by omega) HM.out Hh17_.out Hh18_.out
              have h28_b : ((S l24_).toList == (S ([101] : List UInt8)).toList) = true := by rw [S_eq]; exact decide_eq_true h28_
              have Hh28_ := Lib.hid h28_
              clear h28_
              go_wp2
              go_ret
              exact ⟨ret_bool (by first | exact rfl | exact h28_b.trans rfl), B27_⟩
            · have h18_b : ((S (l.take 1)).toList == (S ([108] : List UInt8)).toList) = false := by rw [S_eq]; exact decide_eq_false h18_
              go_wp2_with fail
              refine (alive_any _).mono ?_
              rintro e w19 ⟨rfl, hb19_⟩
              have o20_ := k11_.below hb19_ (by first | omega | (simp; omega) | simp)
              have z21_ := hb19_.size
              have B22_ := k9_.trans (hb19_.mono (by first | omega | (simp; omega) | simp))
              clear hb19_
              go_wp2_with fail
              refine (implSimplerRule_any m _ (by first | omega | (simp; omega) | simp)).mono ?_
              rintro e w23 ⟨he, hb23_⟩
              obtain ⟨l24_, hl24_⟩ : ∃ y_, simpL m = y_ := ⟨_, rfl⟩
              rw [hl24_] at he
              subst he
              have Hl24_ := Lib.hid hl24_
              clear hl24_
              have o25_ := o20_.below hb23_ (by first | omega | (simp; omega) | simp)
              have z26_ := hb23_.size
              have B27_ := B22_.trans (hb23_.mono (by first | omega | (simp; omega) | simp))
              clear hb23_
              have h28_ : l24_ = (l.take 1) := by rw [← Hl24_.out]; exact short_same H6_.out (t := t) (by omega) HM.out (fun z => h15_ z.2) (fun z => h18_ z.2)
              have h28_b : ((S l24_).toList == (S (l.take 1)).toList) = true := by rw [S_eq]; exact decide_eq_true h28_
              have Hh28_ := Lib.hid h28_
              clear h28_
              go_wp2
              go_ret
              exact ⟨ret_bool (by first | exact rfl | exact h28_b.trans rfl), B27_⟩
        · have h14_b : (((t : Int) % 2) == 1) = false := by simpa using h14_
          have h14_n : (((t : Int) % 2) != 1) = true := by simpa using h14_
          have hq15_ : IntKind.i64.wrap ((t : Int).tmod 2) = (t : Int) % 2 := by rw [Int.tmod_eq_emod_of_nonneg (by omega)]; exact IntWalk.i64_in _ (by omega)
          have h16_ : ¬ (((t : Int) % 2) = 1) := h14_
          have h16_b : (((t : Int) % 2) == 1) = false := by simpa using h16_
          have h16_n : (((t : Int) % 2) != 1) = true := by simpa using h16_
          go_wp2_with fail
          refine (alive_any _).mono ?_
          rintro e w17 ⟨rfl, hb17_⟩
          have o18_ := k11_.below hb17_ (by first | omega | (simp; omega) | simp)
          have z19_ := hb17_.size
          have B20_ := k9_.trans (hb17_.mono (by first | omega | (simp; omega) | simp))
          clear hb17_
          go_wp2_with fail
          refine (implSimplerRule_any m _ (by first | omega | (simp; omega) | simp)).mono ?_
          rintro e w21 ⟨he, hb21_⟩
          obtain ⟨l22_, hl22_⟩ : ∃ y_, simpL m = y_ := ⟨_, rfl⟩
          rw [hl22_] at he
          subst he
          have Hl22_ := Lib.hid hl22_
          clear hl22_
          have o23_ := o18_.below hb21_ (by first | omega | (simp; omega) | simp)
          have z24_ := hb21_.size
          have B25_ := B20_.trans (hb21_.mono (by first | omega | (simp; omega) | simp))
          clear hb21_
          have h26_ : l22_ = (l.take 1) := by rw [← Hl22_.out]; exact short_same H6_.out (t := t) (by omega) HM.out (fun z => h16_ z.1) (fun z => h16_ z.1)
          have h26_b : ((S l22_).toList == (S (l.take 1)).toList) = true := by rw [S_eq]; exact decide_eq_true h26_
          have Hh26_ := Lib.hid h26_
          clear h26_
          go_wp2
          go_ret
          exact ⟨ret_bool (by first | exact rfl | exact h26_b.trans rfl), B25_⟩
  · have H6_ : Hid (ruleB l = false) := by show _ = _; simpa using h6_
    clear h6_
    go_wp2_with fail
    refine (specRuleOk_any l _ (by first | omega | (simp; omega) | simp)).mono ?_
    rintro e w' ⟨he, rfl⟩
    rw [H6_.out] at he
    subst he
    go_wp2_with fail
    refine (implSimplerRule_any l _ (by first | omega | (simp; omega) | simp)).mono ?_
    rintro e w7 ⟨he, hb7_⟩
    obtain ⟨l8_, hl8_⟩ : ∃ y_, simpL l = y_ := ⟨_, rfl⟩
    rw [hl8_] at he
    subst he
    have Hl8_ := Lib.hid hl8_
    clear hl8_
    have o9_ := o3_.below hb7_ (by first | omega | (simp; omega) | simp)
    have z10_ := hb7_.size
    have B11_ := B5_.trans (hb7_.mono (by first | omega | (simp; omega) | simp))
    clear hb7_
    have h12_ : l8_ = ([] : List UInt8) := by rw [← Hl8_.out]; exact simpL_no H6_.out
    have h12_b : ((S l8_).toList == (S ([] : List UInt8)).toList) = true := by rw [S_eq]; exact decide_eq_true h12_
    have Hh12_ := Lib.hid h12_
    clear h12_
    go_wp2_with fail
    refine (alive_any _).mono ?_
    rintro e w13 ⟨rfl, hb13_⟩
    have o14_ := o9_.below hb13_ (by first | omega | (simp; omega) | simp)
    have z15_ := hb13_.size
    have B16_ := B11_.trans (hb13_.mono (by first | omega | (simp; omega) | simp))
    clear hb13_
    go_wp2
    go_ret
    exact ⟨ret_bool (by first | exact rfl | exact h12_b.trans rfl), B16_⟩

set_option maxRecDepth 10000 in
set_option maxHeartbeats 400000 in
theorem fnRuleShort_big (A0 : Option Addr) (c0 : Nat) (bs : List Int) (w : World) (hl : ¬ bs.length ≤ 1048576) (hm : bs.length ≤ 9223372036854775807) :
    Calls Try.prog 6 #[.slice A0 bs.length c0] w fun e w' => e = .returned (.bool true) ∧ Below w.heap.size w w' := by
  go_enter Try.func6, Try.ntmps6
  go_wp2
  go_ret
  exact ⟨rfl, Below.refl _ _⟩

theorem fnRuleShort_all (A0 : Option Addr) (c0 : Nat) (bs : List Int) (w : World) (h0 : Bytes w w.heap.size A0 bs) (hm : bs.length ≤ 9223372036854775807) (hc0 : bs.length ≤ c0) :
    Calls Try.prog 6 #[.slice A0 bs.length c0] w fun e w' => e = .returned (.bool true) ∧ Below w.heap.size w w' := by
  by_cases hl : bs.length ≤ 1048576
  · exact fnRuleShort_walk A0 c0 bs w h0 hl hc0
  · exact fnRuleShort_big A0 c0 bs w hl hm

end Go.Proofs.Ytkkdolbbioeknaa
