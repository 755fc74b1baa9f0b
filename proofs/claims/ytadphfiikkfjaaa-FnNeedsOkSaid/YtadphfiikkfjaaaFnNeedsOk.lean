/-
  The law of NeedsOk returns true for every code, and writes nothing that was there. No condition.
-/
import Derived.Test.YtadphfiikkfjaaaGA
import Derived.Test.YtadphfiikkfjaaaDraw10
import Derived.Test.YtadphfiikkfjaaaRunL
import Derived.Test.YtadphfiikkfjaaaGame10I
import Derived.Test.YtadphfiikkfjaaaGC
import Derived.Test.YtadphfiikkfjaaaFx
import Derived.Deep.RegionHeld3
namespace Go.Proofs.Ytadphfiikkfjaaa
open Go.RowKit

set_option maxRecDepth 10000 in
set_option maxHeartbeats 2000000 in
theorem fnNeedsOk_walk (A0 : Option Addr) (c0 : Nat) (bs : List Int) (w : World) (h0 : Bytes w w.heap.size A0 bs) (hl : bs.length ≤ 1048576) (hc0 : bs.length ≤ c0) :
    Calls Try.prog 3 #[.slice A0 bs.length c0] w fun e w' => e = .returned (.bool true) ∧ Below w.heap.size w w' := by
  have hlm : bs.length ≤ 9223372036854775807 := by omega
  go_enter Try.func3, Try.ntmps3
  have Htrue : Hid True := trivial
  have hc0u := hc0
  have h0u := h0
  have hlmu := hlm
  go_wp2_with fail
  refine (drawNeedsOk_any A0 c0 bs _ (h0.more (by first | omega | (simp; omega) | simp)) hlm hc0).mono ?_
  rintro e w1 ⟨A3_, c4_, xs, hx8, rfl, ho5_, hb2_⟩
  have o6_ := h0.below hb2_ (by first | omega | (simp; omega) | simp)
  have z7_ := hb2_.size
  have B8_ := (Below.refl w.heap.size w).trans (hb2_.mono (by first | omega | (simp; omega) | simp))
  clear hb2_
  by_cases h9_ : needB xs = true
  · have H9_ := Lib.hid h9_
    clear h9_
    go_wp2_with fail
    refine (implNeedsOk_any A3_ c4_ xs _ _ _ ho5_.ints (by first | omega | (simp; omega) | simp) (by omega)).mono ?_
    rintro e w10 ⟨he, hb10_⟩
    rw [H9_.out] at he
    subst he
    have o11_ := o6_.below hb10_ (by first | omega | (simp; omega) | simp)
    have o12_ := ho5_.below hb10_ (by first | omega | (simp; omega) | simp)
    have z13_ := hb10_.size
    have B14_ := B8_.trans (hb10_.mono (by first | omega | (simp; omega) | simp))
    clear hb10_
    go_wp2_with fail
    refine (specNeedsOk_any A3_ c4_ xs _ _ _ o12_.ints (by omega)).mono ?_
    rintro e w' ⟨he, rfl⟩
    rw [H9_.out] at he
    subst he
    have o15_ := o11_.below ((Below.refl _ _).alloc (Nat.le_refl _) (.cells #[] 3)) (by first | omega | (simp; omega) | simp)
    have o16_ := o12_.alloc (by first | omega | (simp; omega) | simp) (.cells #[] 3)
    have B17_ := B14_.alloc (by first | omega | (simp; omega) | simp) (.cells #[] 3)
    have G18_ : Grow (w10.alloc (.cells #[] 3)) (w10.heap.size) 0 ([] : List Int) := by have e := grow_lit w10 ([] : List Int) (by simp); (try simp only [hsz] at e); exact e
    have l19_ := G18_.lt
    have HL20_ : Hid (([] : List Int).length = 0) := rfl
    go_wp2
    go_loopw [6, 5] (fun i v wr => ∃ k : Nat, ∃ g cg : Nat, i = .int .i64 k ∧ v = .slice (some ⟨g, 0, none⟩) k cg ∧ (k ≤ xs.length) ∧ w1.heap.size ≤ g ∧ Grow wr g cg ((xs.take k).reverse) ∧ Below w.heap.size w wr ∧ w10.heap.size + 1 ≤ wr.heap.size ∧ Bytes wr (w.heap.size) A0 bs ∧ Own wr (w.heap.size) (w1.heap.size) A3_ xs) (fun i v _ => xs.length - (intOf i).toNat)
    case atStart => exact ⟨0, w10.heap.size, 0, rfl, (slice_n (by first | rfl | omega)), by omega, (by omega), G18_, B17_, (by first | omega | (simp; omega) | simp), o15_, o16_⟩
    case round =>
      obtain ⟨k, g, cg, rfl, rfl, hk, glb, G22_, k23_, k24_, k25_, k26_⟩ := hrel
      obtain ⟨w21, rfl⟩ : ∃ x, x = wr := ⟨_, rfl⟩
      have HL27_ : Hid (((xs.take k).reverse).length = k) := (by show _ = _; rw [List.length_reverse, List.length_take]; omega)
      have l28_ := G22_.lt
      by_cases hlt0 : k < xs.length
      · obtain ⟨b29_, f30_, rfl, b29_l, b29_h, -⟩ := k26_.ints (by omega)
        have c31_ : w21.cell? ⟨b29_, f30_ + k, none⟩ = some (.int .i64 (xs.getD k 0)) := k26_.ints.at2 k (by first | omega | (simp; omega) | simp)
        have c31_i : (k : Int) < (xs.length : Int) := by omega
        have c31_j : (0 : Int) ≤ (k : Int) := by omega
        obtain ⟨v32_, hv32_⟩ : ∃ v, v = xs.getD k 0 := ⟨_, rfl⟩
        rw [← hv32_] at c31_
        have Hv32_ := Lib.hid hv32_
        clear hv32_
        have o33_ := k25_.below ((Below.refl _ _).alloc (Nat.le_refl _) (.cells #[.int .i64 v32_] 3)) (by first | omega | (simp; omega) | simp)
        have o34_ := k26_.alloc (by first | omega | (simp; omega) | simp) (.cells #[.int .i64 v32_] 3)
        have o35_ := G22_.alloc (.cells #[.int .i64 v32_] 3)
        have B36_ := k23_.alloc (by first | omega | (simp; omega) | simp) (.cells #[.int .i64 v32_] 3)
        have G37_ : Grow (w21.alloc (.cells #[.int .i64 v32_] 3)) (w21.heap.size) 1 ([v32_] : List Int) := by have e := grow_lit w21 ([v32_] : List Int) (by simp); (try simp only [hsz] at e); exact e
        have l38_ := G37_.lt
        have HL39_ : Hid (([v32_] : List Int).length = 1) := rfl
        go_upto_region 10 with (at_builtin; (refine append_grL (by rfl) _ _ (by rfl) (xs := ([v32_] : List Int)) (ys := ((xs.take k).reverse)) (by rfl) (by have e := HL39_.out; omega) G37_ (by rfl) (by have e := HL27_.out; omega) (o35_.ints.read) (by omega) ?_; intro g40_ c41_ L46_ w42 HL46_ L46_l L46_u G42_ hC43_ hg44_))
        have o47_ := o33_.chg hC43_ (by first | omega | (simp; omega) | simp) (by omega)
        have o48_ := o34_.chg hC43_ (by first | omega | (simp; omega) | simp) (by omega)
        have o49_ := o35_.chg hC43_ (by omega)
        have z50_ := hC43_.size
        try simp at z50_
        have B51_ := B36_.trans (hC43_.below (by omega) (by first | omega | (simp; omega) | simp))
        clear hC43_
        have l52_ := G42_.lt
        go_wp2
        go_roundw
        case rel => exact ⟨k + 1, g40_, c41_, by go_num, (slice_n (by first | rfl | omega)), by omega, (by omega), (by rw [take_rev_succ (show k < xs.length by omega) Hv32_.out]; exact G42_), B51_, (by first | omega | (simp; omega) | simp), o47_, o48_⟩
        case measure => simp [intOf] <;> omega
      · obtain rfl : k = xs.length := by omega
        have o29_ := k25_.below ((Below.refl _ _).alloc (Nat.le_refl _) (.cells #[.int .i64 0] 3)) (by first | omega | (simp; omega) | simp)
        have o30_ := k26_.alloc (by first | omega | (simp; omega) | simp) (.cells #[.int .i64 0] 3)
        have o31_ := G22_.alloc (.cells #[.int .i64 0] 3)
        have B32_ := k23_.alloc (by first | omega | (simp; omega) | simp) (.cells #[.int .i64 0] 3)
        have G33_ : Grow (w21.alloc (.cells #[.int .i64 0] 3)) (w21.heap.size) 1 ([0] : List Int) := by have e := grow_lit w21 ([0] : List Int) (by simp); (try simp only [hsz] at e); exact e
        have l34_ := G33_.lt
        have HL35_ : Hid (([0] : List Int).length = 1) := rfl
        have H36_ : Hid (needB ([0] : List Int) = true) := by show _ = _; decide
        go_wp2_with fail
        rw [slice_n (A := (some ⟨w21.heap.size, 0, none⟩)) (n := 1) (m := ([0] : List Int).length) (c := 1) (by have e := HL35_.out; first | omega | exact e.symm)]
        refine (implNeedsOk_any (some ⟨w21.heap.size, 0, none⟩) 1 ([0] : List Int) _ _ _ G33_.ints (by first | omega | (simp; omega) | simp) (by have e := HL35_.out; omega)).mono ?_
        rintro e w37 ⟨he, hb37_⟩
        rw [H36_.out] at he
        subst he
        have o38_ := o29_.below hb37_ (by first | omega | (simp; omega) | simp)
        have o39_ := o30_.below hb37_ (by first | omega | (simp; omega) | simp)
        have o40_ := o31_.below hb37_ (by first | omega | (simp; omega) | simp)
        have o41_ := G33_.below hb37_ (by first | omega | (simp; omega) | simp)
        have z42_ := hb37_.size
        try simp at z42_
        have B43_ := B32_.trans (hb37_.mono (by first | omega | (simp; omega) | simp))
        clear hb37_
        have o44_ := o38_.below ((Below.refl _ _).alloc (Nat.le_refl _) (.cells #[] 3)) (by first | omega | (simp; omega) | simp)
        have o45_ := o39_.alloc (by first | omega | (simp; omega) | simp) (.cells #[] 3)
        have o46_ := o40_.alloc (.cells #[] 3)
        have o47_ := o41_.alloc (.cells #[] 3)
        have B48_ := B43_.alloc (by first | omega | (simp; omega) | simp) (.cells #[] 3)
        have G49_ : Grow (w37.alloc (.cells #[] 3)) (w37.heap.size) 0 ([] : List Int) := by have e := grow_lit w37 ([] : List Int) (by simp); (try simp only [hsz] at e); exact e
        have l50_ := G49_.lt
        have HL51_ : Hid (([] : List Int).length = 0) := rfl
        have H52_ : Hid (needB ([] : List Int) = false) := by show _ = _; decide
        go_wp2_with fail
        rw [slice_n (A := (some ⟨w37.heap.size, 0, none⟩)) (n := 0) (m := ([] : List Int).length) (c := 0) (by have e := HL51_.out; first | omega | exact e.symm)]
        refine (implNeedsOk_any (some ⟨w37.heap.size, 0, none⟩) 0 ([] : List Int) _ _ _ G49_.ints (by first | omega | (simp; omega) | simp) (by have e := HL51_.out; omega)).mono ?_
        rintro e w53 ⟨he, hb53_⟩
        rw [H52_.out] at he
        subst he
        have o54_ := o44_.below hb53_ (by first | omega | (simp; omega) | simp)
        have o55_ := o45_.below hb53_ (by first | omega | (simp; omega) | simp)
        have o56_ := o46_.below hb53_ (by first | omega | (simp; omega) | simp)
        have o57_ := o47_.below hb53_ (by first | omega | (simp; omega) | simp)
        have o58_ := G49_.below hb53_ (by first | omega | (simp; omega) | simp)
        have z59_ := hb53_.size
        try simp at z59_
        have B60_ := B48_.trans (hb53_.mono (by first | omega | (simp; omega) | simp))
        clear hb53_
        have H61_ : Hid (needB ((xs.take xs.length).reverse) = true) := (need_back xs).trans H9_.out
        go_wp2_with fail
        rw [slice_n (A := (some ⟨g, 0, none⟩)) (n := xs.length) (m := ((xs.take xs.length).reverse).length) (c := cg) (by have e := HL27_.out; first | omega | exact e.symm)]
        refine (implNeedsOk_any (some ⟨g, 0, none⟩) cg ((xs.take xs.length).reverse) _ _ _ o56_.ints (by first | omega | (simp; omega) | simp) (by have e := HL27_.out; omega)).mono ?_
        rintro e w62 ⟨he, hb62_⟩
        rw [H61_.out] at he
        subst he
        have o63_ := o54_.below hb62_ (by first | omega | (simp; omega) | simp)
        have o64_ := o55_.below hb62_ (by first | omega | (simp; omega) | simp)
        have o65_ := o56_.below hb62_ (by first | omega | (simp; omega) | simp)
        have o66_ := o57_.below hb62_ (by first | omega | (simp; omega) | simp)
        have o67_ := o58_.below hb62_ (by first | omega | (simp; omega) | simp)
        have z68_ := hb62_.size
        have B69_ := B60_.trans (hb62_.mono (by first | omega | (simp; omega) | simp))
        clear hb62_
        go_wp2
        go_ret
        exact ⟨ret_bool rfl, B69_⟩
  · have H9_ : Hid (needB xs = false) := by show _ = _; simpa using h9_
    clear h9_
    go_wp2_with fail
    refine (implNeedsOk_any A3_ c4_ xs _ _ _ ho5_.ints (by first | omega | (simp; omega) | simp) (by omega)).mono ?_
    rintro e w10 ⟨he, hb10_⟩
    rw [H9_.out] at he
    subst he
    have o11_ := o6_.below hb10_ (by first | omega | (simp; omega) | simp)
    have o12_ := ho5_.below hb10_ (by first | omega | (simp; omega) | simp)
    have z13_ := hb10_.size
    have B14_ := B8_.trans (hb10_.mono (by first | omega | (simp; omega) | simp))
    clear hb10_
    go_wp2_with fail
    refine (specNeedsOk_any A3_ c4_ xs _ _ _ o12_.ints (by omega)).mono ?_
    rintro e w' ⟨he, rfl⟩
    rw [H9_.out] at he
    subst he
    have o15_ := o11_.below ((Below.refl _ _).alloc (Nat.le_refl _) (.cells #[] 3)) (by first | omega | (simp; omega) | simp)
    have o16_ := o12_.alloc (by first | omega | (simp; omega) | simp) (.cells #[] 3)
    have B17_ := B14_.alloc (by first | omega | (simp; omega) | simp) (.cells #[] 3)
    have G18_ : Grow (w10.alloc (.cells #[] 3)) (w10.heap.size) 0 ([] : List Int) := by have e := grow_lit w10 ([] : List Int) (by simp); (try simp only [hsz] at e); exact e
    have l19_ := G18_.lt
    have HL20_ : Hid (([] : List Int).length = 0) := rfl
    go_wp2
    go_loopw [6, 5] (fun i v wr => ∃ k : Nat, ∃ g cg : Nat, i = .int .i64 k ∧ v = .slice (some ⟨g, 0, none⟩) k cg ∧ (k ≤ xs.length) ∧ w1.heap.size ≤ g ∧ Grow wr g cg ((xs.take k).reverse) ∧ Below w.heap.size w wr ∧ w10.heap.size + 1 ≤ wr.heap.size ∧ Bytes wr (w.heap.size) A0 bs ∧ Own wr (w.heap.size) (w1.heap.size) A3_ xs) (fun i v _ => xs.length - (intOf i).toNat)
    case atStart => exact ⟨0, w10.heap.size, 0, rfl, (slice_n (by first | rfl | omega)), by omega, (by omega), G18_, B17_, (by first | omega | (simp; omega) | simp), o15_, o16_⟩
    case round =>
      obtain ⟨k, g, cg, rfl, rfl, hk, glb, G22_, k23_, k24_, k25_, k26_⟩ := hrel
      obtain ⟨w21, rfl⟩ : ∃ x, x = wr := ⟨_, rfl⟩
      have HL27_ : Hid (((xs.take k).reverse).length = k) := (by show _ = _; rw [List.length_reverse, List.length_take]; omega)
      have l28_ := G22_.lt
      by_cases hlt0 : k < xs.length
      · obtain ⟨b29_, f30_, rfl, b29_l, b29_h, -⟩ := k26_.ints (by omega)
        have c31_ : w21.cell? ⟨b29_, f30_ + k, none⟩ = some (.int .i64 (xs.getD k 0)) := k26_.ints.at2 k (by first | omega | (simp; omega) | simp)
        have c31_i : (k : Int) < (xs.length : Int) := by omega
        have c31_j : (0 : Int) ≤ (k : Int) := by omega
        obtain ⟨v32_, hv32_⟩ : ∃ v, v = xs.getD k 0 := ⟨_, rfl⟩
        rw [← hv32_] at c31_
        have Hv32_ := Lib.hid hv32_
        clear hv32_
        have o33_ := k25_.below ((Below.refl _ _).alloc (Nat.le_refl _) (.cells #[.int .i64 v32_] 3)) (by first | omega | (simp; omega) | simp)
        have o34_ := k26_.alloc (by first | omega | (simp; omega) | simp) (.cells #[.int .i64 v32_] 3)
        have o35_ := G22_.alloc (.cells #[.int .i64 v32_] 3)
        have B36_ := k23_.alloc (by first | omega | (simp; omega) | simp) (.cells #[.int .i64 v32_] 3)
        have G37_ : Grow (w21.alloc (.cells #[.int .i64 v32_] 3)) (w21.heap.size) 1 ([v32_] : List Int) := by have e := grow_lit w21 ([v32_] : List Int) (by simp); (try simp only [hsz] at e); exact e
        have l38_ := G37_.lt
        have HL39_ : Hid (([v32_] : List Int).length = 1) := rfl
        go_upto_region 10 with (at_builtin; (refine append_grL (by rfl) _ _ (by rfl) (xs := ([v32_] : List Int)) (ys := ((xs.take k).reverse)) (by rfl) (by have e := HL39_.out; omega) G37_ (by rfl) (by have e := HL27_.out; omega) (o35_.ints.read) (by omega) ?_; intro g40_ c41_ L46_ w42 HL46_ L46_l L46_u G42_ hC43_ hg44_))
        have o47_ := o33_.chg hC43_ (by first | omega | (simp; omega) | simp) (by omega)
        have o48_ := o34_.chg hC43_ (by first | omega | (simp; omega) | simp) (by omega)
        have o49_ := o35_.chg hC43_ (by omega)
        have z50_ := hC43_.size
        try simp at z50_
        have B51_ := B36_.trans (hC43_.below (by omega) (by first | omega | (simp; omega) | simp))
        clear hC43_
        have l52_ := G42_.lt
        go_wp2
        go_roundw
        case rel => exact ⟨k + 1, g40_, c41_, by go_num, (slice_n (by first | rfl | omega)), by omega, (by omega), (by rw [take_rev_succ (show k < xs.length by omega) Hv32_.out]; exact G42_), B51_, (by first | omega | (simp; omega) | simp), o47_, o48_⟩
        case measure => simp [intOf] <;> omega
      · obtain rfl : k = xs.length := by omega
        have o29_ := k25_.below ((Below.refl _ _).alloc (Nat.le_refl _) (.cells #[.int .i64 0] 3)) (by first | omega | (simp; omega) | simp)
        have o30_ := k26_.alloc (by first | omega | (simp; omega) | simp) (.cells #[.int .i64 0] 3)
        have o31_ := G22_.alloc (.cells #[.int .i64 0] 3)
        have B32_ := k23_.alloc (by first | omega | (simp; omega) | simp) (.cells #[.int .i64 0] 3)
        have G33_ : Grow (w21.alloc (.cells #[.int .i64 0] 3)) (w21.heap.size) 1 ([0] : List Int) := by have e := grow_lit w21 ([0] : List Int) (by simp); (try simp only [hsz] at e); exact e
        have l34_ := G33_.lt
        have HL35_ : Hid (([0] : List Int).length = 1) := rfl
        have H36_ : Hid (needB ([0] : List Int) = true) := by show _ = _; decide
        go_wp2_with fail
        rw [slice_n (A := (some ⟨w21.heap.size, 0, none⟩)) (n := 1) (m := ([0] : List Int).length) (c := 1) (by have e := HL35_.out; first | omega | exact e.symm)]
        refine (implNeedsOk_any (some ⟨w21.heap.size, 0, none⟩) 1 ([0] : List Int) _ _ _ G33_.ints (by first | omega | (simp; omega) | simp) (by have e := HL35_.out; omega)).mono ?_
        rintro e w37 ⟨he, hb37_⟩
        rw [H36_.out] at he
        subst he
        have o38_ := o29_.below hb37_ (by first | omega | (simp; omega) | simp)
        have o39_ := o30_.below hb37_ (by first | omega | (simp; omega) | simp)
        have o40_ := o31_.below hb37_ (by first | omega | (simp; omega) | simp)
        have o41_ := G33_.below hb37_ (by first | omega | (simp; omega) | simp)
        have z42_ := hb37_.size
        try simp at z42_
        have B43_ := B32_.trans (hb37_.mono (by first | omega | (simp; omega) | simp))
        clear hb37_
        have o44_ := o38_.below ((Below.refl _ _).alloc (Nat.le_refl _) (.cells #[] 3)) (by first | omega | (simp; omega) | simp)
        have o45_ := o39_.alloc (by first | omega | (simp; omega) | simp) (.cells #[] 3)
        have o46_ := o40_.alloc (.cells #[] 3)
        have o47_ := o41_.alloc (.cells #[] 3)
        have B48_ := B43_.alloc (by first | omega | (simp; omega) | simp) (.cells #[] 3)
        have G49_ : Grow (w37.alloc (.cells #[] 3)) (w37.heap.size) 0 ([] : List Int) := by have e := grow_lit w37 ([] : List Int) (by simp); (try simp only [hsz] at e); exact e
        have l50_ := G49_.lt
        have HL51_ : Hid (([] : List Int).length = 0) := rfl
        have H52_ : Hid (needB ([] : List Int) = false) := by show _ = _; decide
        go_wp2_with fail
        rw [slice_n (A := (some ⟨w37.heap.size, 0, none⟩)) (n := 0) (m := ([] : List Int).length) (c := 0) (by have e := HL51_.out; first | omega | exact e.symm)]
        refine (implNeedsOk_any (some ⟨w37.heap.size, 0, none⟩) 0 ([] : List Int) _ _ _ G49_.ints (by first | omega | (simp; omega) | simp) (by have e := HL51_.out; omega)).mono ?_
        rintro e w53 ⟨he, hb53_⟩
        rw [H52_.out] at he
        subst he
        have o54_ := o44_.below hb53_ (by first | omega | (simp; omega) | simp)
        have o55_ := o45_.below hb53_ (by first | omega | (simp; omega) | simp)
        have o56_ := o46_.below hb53_ (by first | omega | (simp; omega) | simp)
        have o57_ := o47_.below hb53_ (by first | omega | (simp; omega) | simp)
        have o58_ := G49_.below hb53_ (by first | omega | (simp; omega) | simp)
        have z59_ := hb53_.size
        try simp at z59_
        have B60_ := B48_.trans (hb53_.mono (by first | omega | (simp; omega) | simp))
        clear hb53_
        have H61_ : Hid (needB ((xs.take xs.length).reverse) = false) := (need_back xs).trans H9_.out
        go_wp2_with fail
        rw [slice_n (A := (some ⟨g, 0, none⟩)) (n := xs.length) (m := ((xs.take xs.length).reverse).length) (c := cg) (by have e := HL27_.out; first | omega | exact e.symm)]
        refine (implNeedsOk_any (some ⟨g, 0, none⟩) cg ((xs.take xs.length).reverse) _ _ _ o56_.ints (by first | omega | (simp; omega) | simp) (by have e := HL27_.out; omega)).mono ?_
        rintro e w62 ⟨he, hb62_⟩
        rw [H61_.out] at he
        subst he
        have o63_ := o54_.below hb62_ (by first | omega | (simp; omega) | simp)
        have o64_ := o55_.below hb62_ (by first | omega | (simp; omega) | simp)
        have o65_ := o56_.below hb62_ (by first | omega | (simp; omega) | simp)
        have o66_ := o57_.below hb62_ (by first | omega | (simp; omega) | simp)
        have o67_ := o58_.below hb62_ (by first | omega | (simp; omega) | simp)
        have z68_ := hb62_.size
        have B69_ := B60_.trans (hb62_.mono (by first | omega | (simp; omega) | simp))
        clear hb62_
        go_wp2
        go_ret
        exact ⟨ret_bool rfl, B69_⟩

set_option maxRecDepth 10000 in
set_option maxHeartbeats 400000 in
theorem fnNeedsOk_big (A0 : Option Addr) (c0 : Nat) (bs : List Int) (w : World) (hl : ¬ bs.length ≤ 1048576) (hm : bs.length ≤ 9223372036854775807) :
    Calls Try.prog 3 #[.slice A0 bs.length c0] w fun e w' => e = .returned (.bool true) ∧ Below w.heap.size w w' := by
  go_enter Try.func3, Try.ntmps3
  go_wp2
  go_ret
  exact ⟨rfl, Below.refl _ _⟩

theorem fnNeedsOk_all (A0 : Option Addr) (c0 : Nat) (bs : List Int) (w : World) (h0 : Bytes w w.heap.size A0 bs) (hm : bs.length ≤ 9223372036854775807) (hc0 : bs.length ≤ c0) :
    Calls Try.prog 3 #[.slice A0 bs.length c0] w fun e w' => e = .returned (.bool true) ∧ Below w.heap.size w w' := by
  by_cases hl : bs.length ≤ 1048576
  · exact fnNeedsOk_walk A0 c0 bs w h0 hl hc0
  · exact fnNeedsOk_big A0 c0 bs w hl hm

end Go.Proofs.Ytadphfiikkfjaaa
