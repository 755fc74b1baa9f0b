/-
  The exact law of EvenRow returns true, and writes nothing that was there. No condition.
-/
import Derived.Test.YtpoafafoncgenabExactCase
import Derived.Test.YtpoafafoncgenabSpecRow
import Derived.Deep.RegionHeld3
namespace Go.Proofs.Ytpoafafoncgenab
open Go.RowKit

theorem evenXs_len (xs : List Int) (e : Int) : (evenXs xs e).length ≤ xs.length := by unfold evenXs; split <;> simp [evenOf_length]

set_option maxRecDepth 10000 in
set_option maxHeartbeats 1600000 in
theorem exEvenRow_walk (A : Option Addr) (c : Nat) (xs : List Int) (E : Int) (w : World) (h : Ints w 0 w.heap.size A xs) (hl : xs.length ≤ 1048576) :
    Calls Try.prog 6 #[.slice A xs.length c, .int .i64 E] w fun e w' => e = .returned (.bool true) ∧ Below w.heap.size w w' := by
  have hR : (evenXs xs E).length ≤ 1048576 := Nat.le_trans (evenXs_len xs E) hl
  have hEB : (evenB xs E != evenB xs E) = false := by simp
  go_enter Try.func6, Try.ntmps6
  go_wp2_with fail
  refine (toIntS_any A c xs _ 0 w.heap.size (h.below (Below.refl w.heap.size w) (Nat.le_refl _)) (by first | omega | (simp; omega) | simp) hl).mono ?_
  rintro e w1 ⟨A1, c1, rfl, ho1, hb1⟩
  have hz1 := hb1.size
  have B2 := (Below.refl w.heap.size w).trans (hb1.mono (by first | omega | (simp; omega) | simp))
  clear hb1
  go_wp2_with fail
  refine (specEvenRow_any A1 c1 xs E _ _ _ ho1.ints (by first | omega | (simp; omega) | simp) (by omega)).mono ?_
  rintro e w2 ⟨A2, c2, rfl, ho2, hb2⟩
  have o3 := ho1.below hb2 (by first | omega | (simp; omega) | simp)
  have hz4 := hb2.size
  have B5 := B2.trans (hb2.mono (by first | omega | (simp; omega) | simp))
  clear hb2
  go_wp2_with fail
  refine (toIntS_any A c xs _ 0 w.heap.size (h.below B5 (Nat.le_refl _)) (by first | omega | (simp; omega) | simp) hl).mono ?_
  rintro e w3 ⟨A3, c3, rfl, ho3, hb3⟩
  have o6 := o3.below hb3 (by first | omega | (simp; omega) | simp)
  have o7 := ho2.below hb3 (by first | omega | (simp; omega) | simp)
  have hz8 := hb3.size
  have B9 := B5.trans (hb3.mono (by first | omega | (simp; omega) | simp))
  clear hb3
  go_wp2_with fail
  refine (implEvenRow_any A3 c3 xs E _ _ _ ho3.ints (by first | omega | (simp; omega) | simp) (by omega)).mono ?_
  rintro e w4 ⟨A4, c4, rfl, ho4, hb4⟩
  have o10 := o6.below hb4 (by first | omega | (simp; omega) | simp)
  have o11 := o7.below hb4 (by first | omega | (simp; omega) | simp)
  have o12 := ho3.below hb4 (by first | omega | (simp; omega) | simp)
  have hz13 := hb4.size
  have B14 := B9.trans (hb4.mono (by first | omega | (simp; omega) | simp))
  clear hb4
  go_wp2_with fail
  refine (eqIntS_same A4 A2 c4 c2 (evenXs xs E) _ _ _ _ _ ho4.ints o11.ints (by omega)).mono ?_
  rintro e w5 ⟨rfl, hb5⟩
  have o15 := o10.below hb5 (by first | omega | (simp; omega) | simp)
  have o16 := o11.below hb5 (by first | omega | (simp; omega) | simp)
  have o17 := o12.below hb5 (by first | omega | (simp; omega) | simp)
  have o18 := ho4.below hb5 (by first | omega | (simp; omega) | simp)
  have hz19 := hb5.size
  have B20 := B14.trans (hb5.mono (by first | omega | (simp; omega) | simp))
  clear hb5
  go_wp2_with fail
  refine (toIntS_any A c xs _ 0 w.heap.size (h.below B20 (Nat.le_refl _)) (by first | omega | (simp; omega) | simp) hl).mono ?_
  rintro e w6 ⟨A6, c6, rfl, ho6, hb6⟩
  have o21 := o15.below hb6 (by first | omega | (simp; omega) | simp)
  have o22 := o16.below hb6 (by first | omega | (simp; omega) | simp)
  have o23 := o17.below hb6 (by first | omega | (simp; omega) | simp)
  have o24 := o18.below hb6 (by first | omega | (simp; omega) | simp)
  have hz25 := hb6.size
  have B26 := B20.trans (hb6.mono (by first | omega | (simp; omega) | simp))
  clear hb6
  go_wp2_with fail
  refine (eqIntS_same A3 A6 c3 c6 (xs) _ _ _ _ _ o23.ints ho6.ints (by omega)).mono ?_
  rintro e w7 ⟨rfl, hb7⟩
  have o27 := o21.below hb7 (by first | omega | (simp; omega) | simp)
  have o28 := o22.below hb7 (by first | omega | (simp; omega) | simp)
  have o29 := o23.below hb7 (by first | omega | (simp; omega) | simp)
  have o30 := o24.below hb7 (by first | omega | (simp; omega) | simp)
  have o31 := ho6.below hb7 (by first | omega | (simp; omega) | simp)
  have hz32 := hb7.size
  have B33 := B26.trans (hb7.mono (by first | omega | (simp; omega) | simp))
  clear hb7
  go_wp2_with fail
  refine (markIntS_any A3 c3 (xs) 1 _ _ _ o29 hl (by omega) (by omega)).mono ?_
  rintro e w8 ⟨rfl, om8, hc8⟩
  have o34 := o27.chg hc8 (by first | omega | (simp; omega) | simp) (by first | omega | (simp; omega) | simp)
  have o35 := o28.chg hc8 (by first | omega | (simp; omega) | simp) (by first | omega | (simp; omega) | simp)
  have o37 := o30.chg hc8 (by first | omega | (simp; omega) | simp) (by first | omega | (simp; omega) | simp)
  have o38 := o31.chg hc8 (by first | omega | (simp; omega) | simp) (by first | omega | (simp; omega) | simp)
  have hz39 := hc8.size
  have B40 := B33.trans (hc8.below (by first | omega | (simp; omega) | simp) (by first | omega | (simp; omega) | simp))
  clear hc8
  have e41 : ¬ (1 + (xs.length : Int) < 0) := by omega
  go_wp2_with fail
  refine (eqIntS_same A4 A2 c4 c2 (evenXs xs E) _ _ _ _ _ o37.ints o35.ints (by omega)).mono ?_
  rintro e w9 ⟨rfl, hb9⟩
  have o42 := o34.below hb9 (by first | omega | (simp; omega) | simp)
  have o43 := o35.below hb9 (by first | omega | (simp; omega) | simp)
  have o44 := om8.below hb9 (by first | omega | (simp; omega) | simp)
  have o45 := o37.below hb9 (by first | omega | (simp; omega) | simp)
  have o46 := o38.below hb9 (by first | omega | (simp; omega) | simp)
  have hz47 := hb9.size
  have B48 := B40.trans (hb9.mono (by first | omega | (simp; omega) | simp))
  clear hb9
  go_wp2_with fail
  refine (markIntS_any A4 c4 (evenXs xs E) 1 _ _ _ o45 hR (by omega) (by omega)).mono ?_
  rintro e w10 ⟨rfl, om10, hc10⟩
  have o49 := o42.chg hc10 (by first | omega | (simp; omega) | simp) (by first | omega | (simp; omega) | simp)
  have o50 := o43.chg hc10 (by first | omega | (simp; omega) | simp) (by first | omega | (simp; omega) | simp)
  have o51 := o44.chg hc10 (by first | omega | (simp; omega) | simp) (by first | omega | (simp; omega) | simp)
  have o53 := o46.chg hc10 (by first | omega | (simp; omega) | simp) (by first | omega | (simp; omega) | simp)
  have hz54 := hc10.size
  have B55 := B48.trans (hc10.below (by first | omega | (simp; omega) | simp) (by first | omega | (simp; omega) | simp))
  clear hc10
  have e56 : ¬ (1 + ((evenXs xs E).length : Int) < 0) := by omega
  have e57 : (1 + ((evenXs xs E).length : Int) != 1 + ((evenXs xs E).length : Int)) = false := by simp
  go_wp2_with fail
  refine (heldIntS_below A4 c4 (evenXs xs E).length 1 _ _ _ om10.ints hR (by omega) (by omega)).mono ?_
  rintro e w11 ⟨rfl, hb11⟩
  have o58 := o49.below hb11 (by first | omega | (simp; omega) | simp)
  have o59 := o50.below hb11 (by first | omega | (simp; omega) | simp)
  have o60 := o51.below hb11 (by first | omega | (simp; omega) | simp)
  have o61 := om10.below hb11 (by first | omega | (simp; omega) | simp)
  have o62 := o53.below hb11 (by first | omega | (simp; omega) | simp)
  have hz63 := hb11.size
  have B64 := B55.trans (hb11.mono (by first | omega | (simp; omega) | simp))
  clear hb11
  go_wp2_with fail
  refine (toIntS_any A c xs _ 0 w.heap.size (h.below B64 (Nat.le_refl _)) (by first | omega | (simp; omega) | simp) hl).mono ?_
  rintro e w12 ⟨A12, c12, rfl, ho12, hb12⟩
  have o65 := o58.below hb12 (by first | omega | (simp; omega) | simp)
  have o66 := o59.below hb12 (by first | omega | (simp; omega) | simp)
  have o67 := o60.below hb12 (by first | omega | (simp; omega) | simp)
  have o68 := o61.below hb12 (by first | omega | (simp; omega) | simp)
  have o69 := o62.below hb12 (by first | omega | (simp; omega) | simp)
  have hz70 := hb12.size
  have B71 := B64.trans (hb12.mono (by first | omega | (simp; omega) | simp))
  clear hb12
  go_wp2_with fail
  refine (implEvenRow_any A12 c12 xs E _ _ _ ho12.ints (by first | omega | (simp; omega) | simp) (by omega)).mono ?_
  rintro e w13 ⟨A13, c13, rfl, ho13, hb13⟩
  have o72 := o65.below hb13 (by first | omega | (simp; omega) | simp)
  have o73 := o66.below hb13 (by first | omega | (simp; omega) | simp)
  have o74 := o67.below hb13 (by first | omega | (simp; omega) | simp)
  have o75 := o68.below hb13 (by first | omega | (simp; omega) | simp)
  have o76 := o69.below hb13 (by first | omega | (simp; omega) | simp)
  have o77 := ho12.below hb13 (by first | omega | (simp; omega) | simp)
  have hz78 := hb13.size
  have B79 := B71.trans (hb13.mono (by first | omega | (simp; omega) | simp))
  clear hb13
  go_wp2_with fail
  refine (eqIntS_same A13 A2 c13 c2 (evenXs xs E) _ _ _ _ _ ho13.ints o73.ints (by omega)).mono ?_
  rintro e w14 ⟨rfl, hb14⟩
  have o80 := o72.below hb14 (by first | omega | (simp; omega) | simp)
  have o81 := o73.below hb14 (by first | omega | (simp; omega) | simp)
  have o82 := o74.below hb14 (by first | omega | (simp; omega) | simp)
  have o83 := o75.below hb14 (by first | omega | (simp; omega) | simp)
  have o84 := o76.below hb14 (by first | omega | (simp; omega) | simp)
  have o85 := o77.below hb14 (by first | omega | (simp; omega) | simp)
  have o86 := ho13.below hb14 (by first | omega | (simp; omega) | simp)
  have hz87 := hb14.size
  have B88 := B79.trans (hb14.mono (by first | omega | (simp; omega) | simp))
  clear hb14
  go_wp2_with fail
  refine (heldIntS_below A4 c4 (evenXs xs E).length 1 _ _ _ o83.ints hR (by omega) (by omega)).mono ?_
  rintro e w15 ⟨rfl, hb15⟩
  have o89 := o80.below hb15 (by first | omega | (simp; omega) | simp)
  have o90 := o81.below hb15 (by first | omega | (simp; omega) | simp)
  have o91 := o82.below hb15 (by first | omega | (simp; omega) | simp)
  have o92 := o83.below hb15 (by first | omega | (simp; omega) | simp)
  have o93 := o84.below hb15 (by first | omega | (simp; omega) | simp)
  have o94 := o85.below hb15 (by first | omega | (simp; omega) | simp)
  have o95 := o86.below hb15 (by first | omega | (simp; omega) | simp)
  have hz96 := hb15.size
  have B97 := B88.trans (hb15.mono (by first | omega | (simp; omega) | simp))
  clear hb15
  go_wp2
  go_ret
  exact ⟨rfl, B97⟩

set_option maxRecDepth 10000 in
set_option maxHeartbeats 400000 in
theorem exEvenRow_big (A : Option Addr) (c : Nat) (xs : List Int) (E : Int) (w : World) (hl : ¬ xs.length ≤ 1048576) (hm : xs.length ≤ 9223372036854775807) :
    Calls Try.prog 6 #[.slice A xs.length c, .int .i64 E] w fun e w' => e = .returned (.bool true) ∧ Below w.heap.size w w' := by
  go_enter Try.func6, Try.ntmps6
  go_wp2
  go_ret
  exact ⟨rfl, Below.refl _ _⟩

theorem exEvenRow_all (A : Option Addr) (c : Nat) (xs : List Int) (E : Int) (w : World) (h : Ints w 0 w.heap.size A xs) (hm : xs.length ≤ 9223372036854775807) :
    Calls Try.prog 6 #[.slice A xs.length c, .int .i64 E] w fun e w' => e = .returned (.bool true) ∧ Below w.heap.size w w' := by
  by_cases hl : xs.length ≤ 1048576
  · exact exEvenRow_walk A c xs E w h hl
  · exact exEvenRow_big A c xs E w hl hm

end Go.Proofs.Ytpoafafoncgenab
