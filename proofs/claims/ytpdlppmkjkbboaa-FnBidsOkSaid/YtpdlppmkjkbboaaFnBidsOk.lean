/-
  The law of BidsOk returns true for every code, and writes nothing that was there. No condition.
-/
import Derived.Test.YtpdlppmkjkbboaaGA
import Derived.Test.YtpdlppmkjkbboaaDraw9
import Derived.Test.YtpdlppmkjkbboaaGridB
import Derived.Test.YtpdlppmkjkbboaaGame9I
import Derived.Test.YtpdlppmkjkbboaaGC
import Derived.Test.YtpdlppmkjkbboaaFx
import Derived.Deep.RegionHeld3
namespace Go.Proofs.Ytpdlppmkjkbboaa
open Go.RowKit

set_option maxRecDepth 10000 in
set_option maxHeartbeats 2000000 in
theorem fnBidsOk_walk (A0 : Option Addr) (c0 : Nat) (bs : List Int) (w : World) (h0 : Bytes w w.heap.size A0 bs) (hl : bs.length ≤ 1048576) (hc0 : bs.length ≤ c0) :
    Calls Try.prog 3 #[.slice A0 bs.length c0] w fun e w' => e = .returned (.bool true) ∧ Below w.heap.size w w' := by
  have hlm : bs.length ≤ 9223372036854775807 := by omega
  go_enter Try.func3, Try.ntmps3
  have Htrue : Hid True := trivial
  have hc0u := hc0
  have h0u := h0
  have hlmu := hlm
  go_wp2_with fail
  refine (drawBidsOk_any A0 c0 bs _ (h0.more (by first | omega | (simp; omega) | simp)) hlm hc0).mono ?_
  rintro e w1 ⟨A3_, c4_, B, hB4, hB6, rfl, Gd5_, hb2_⟩
  have o6_ := h0.below hb2_ (by first | omega | (simp; omega) | simp)
  have z7_ := hb2_.size
  have B8_ := (Below.refl w.heap.size w).trans (hb2_.mono (by first | omega | (simp; omega) | simp))
  clear hb2_
  have HB6 := Lib.hid hB6
  clear hB6
  by_cases h9_ : bidB B = true
  · have H9_ := Lib.hid h9_
    clear h9_
    have HBO := Lib.hid H9_.out
    have hbd := bidB_bd HBO.out
    obtain ⟨hB2, hB4', hT4⟩ := hbd
    have HTL := Lib.hid (takersRow_len HBO.out)
    have htl1 : (takersRow B).length ≤ things B := by have e := HTL.out; omega
    have htl2 : things B ≤ (takersRow B).length := by have e := HTL.out; omega
    have HFL : Hid ((fairRow B).length = B.length) := by show _ = _; rw [fairRow_yes HBO.out, fnRow_length]
    have hfl1 : (fairRow B).length ≤ B.length := by have e := HFL.out; omega
    have hfl2 : B.length ≤ (fairRow B).length := by have e := HFL.out; omega
    have HPL : Hid ((paidRow B).length = B.length) := by show _ = _; rw [paidRow, if_pos HBO.out, fnRow_length]
    have hpl1 : (paidRow B).length ≤ B.length := by have e := HPL.out; omega
    have hpl2 : B.length ≤ (paidRow B).length := by have e := HPL.out; omega
    have HEL : Hid ((endRow B).length = B.length) := by show _ = _; rw [endRow, if_pos HBO.out, fnRow_length]
    have hel1 : (endRow B).length ≤ B.length := by have e := HEL.out; omega
    have hel2 : B.length ≤ (endRow B).length := by have e := HEL.out; omega
    go_wp2_with fail
    refine (implBidsOk_any A3_ c4_ B _ _ _ Gd5_.grid (by first | omega | (simp; omega) | simp) (by omega)).mono ?_
    rintro e w10 ⟨he, hb10_⟩
    rw [H9_.out] at he
    subst he
    have o11_ := o6_.below hb10_ (by first | omega | (simp; omega) | simp)
    have o12_ := Gd5_.below hb10_ (by first | omega | (simp; omega) | simp)
    have z13_ := hb10_.size
    have B14_ := B8_.trans (hb10_.mono (by first | omega | (simp; omega) | simp))
    clear hb10_
    go_wp2_with fail
    refine (specBidsOk_any A3_ c4_ B _ _ _ o12_.grid (by first | omega | (simp; omega) | simp) (by omega)).mono ?_
    rintro e w15 ⟨he, hb15_⟩
    rw [H9_.out] at he
    subst he
    have o16_ := o11_.below hb15_ (by first | omega | (simp; omega) | simp)
    have o17_ := o12_.below hb15_ (by first | omega | (simp; omega) | simp)
    have z18_ := hb15_.size
    have B19_ := B14_.trans (hb15_.mono (by first | omega | (simp; omega) | simp))
    clear hb15_
    have o20_ := o16_.below ((Below.refl _ _).alloc (Nat.le_refl _) (.cells #[] 26)) (by first | omega | (simp; omega) | simp)
    have o21_ := o17_.alloc (by first | omega | (simp; omega) | simp) (.cells #[] 26)
    have B22_ := B19_.alloc (by first | omega | (simp; omega) | simp) (.cells #[] 26)
    have R23_ : Rows (w15.alloc (.cells #[] 26)) true w15.heap.size (w15.heap.size + 1) w15.heap.size 0 ([]) := by have e := rows_lit0 w15 true; (try simp only [hsz] at e); exact e
    go_wp2
    go_loopw [6, 5] (fun kk v wr => ∃ k : Nat, ∃ g cg : Nat, kk = .int .i64 k ∧ v = .slice (some ⟨g, 0, none⟩) k cg ∧ (k ≤ B.length) ∧ w.heap.size ≤ g ∧ Rows wr true w.heap.size wr.heap.size g cg ((B.take k).reverse) ∧ Below w.heap.size w wr ∧ w15.heap.size + 1 ≤ wr.heap.size ∧ Bytes wr (w.heap.size) A0 bs ∧ GridS wr (w.heap.size) (w1.heap.size) A3_ B) (fun kk v _ => B.length - (intOf kk).toNat)
    case atStart => exact ⟨0, w15.heap.size, 0, rfl, (slice_n (by first | rfl | omega | simp)), Nat.zero_le _, (by omega), (show Rows (w15.alloc (.cells #[] 26)) true w15.heap.size (w15.heap.size + 1) w15.heap.size 0 ((B.take 0).reverse) from R23_).more (by omega) (by first | omega | (simp; omega) | simp) (Nat.le_refl _), B22_, (by first | omega | (simp; omega) | simp), o20_, o21_⟩
    case round =>
      obtain ⟨k, g, cg, rfl, rfl, hk, glb, G25_, k26_, k27_, k28_, k29_⟩ := hrel
      obtain ⟨w24, rfl⟩ : ∃ x, x = wr := ⟨_, rfl⟩
      have HL30_ : Hid (((B.take k).reverse).length = k) := (by show _ = _; rw [List.length_reverse, List.length_take]; omega)
      have l31_ := G25_.lt
      have l32_ := G25_.ge
      by_cases hlt0 : k < B.length
      · have o33_ := k28_.below ((Below.refl _ _).alloc (Nat.le_refl _) (.cells #[] 3)) (by first | omega | (simp; omega) | simp)
        have o34_ := k29_.alloc (by first | omega | (simp; omega) | simp) (.cells #[] 3)
        have o35_ := G25_.alloc (.cells #[] 3)
        have B36_ := k26_.alloc (by first | omega | (simp; omega) | simp) (.cells #[] 3)
        have G37_ : Grow (w24.alloc (.cells #[] 3)) (w24.heap.size) 0 ([] : List Int) := by have e := grow_lit w24 ([] : List Int) (by simp); (try simp only [hsz] at e); exact e
        have l38_ := G37_.lt
        have HL39_ : Hid (([] : List Int).length = 0) := rfl
        obtain ⟨b40_, f41_, rfl, _, b40_h, -⟩ := o34_ (by omega)
        obtain ⟨b48_, f49_, d43_, c44_, F45_, rm47_⟩ := o34_.at_ k (by omega)
        obtain ⟨y46_, hy46_⟩ : ∃ y_, B.getD k [] = y_ := ⟨_, rfl⟩
        rw [hy46_] at c44_ F45_ rm47_
        have qy46_ := HB6.out k
        rw [hy46_] at qy46_
        have Hy46_ := Lib.hid hy46_
        clear hy46_
        have c44_ : (w24.alloc (.cells #[] 3)).cell? ⟨b40_, f41_ + k, none⟩ = some (.slice (some ⟨b48_, f49_, none⟩) y46_.length d43_) := c44_
        have c44_i : (k : Int) < (B.length : Int) := by omega
        have c44_j : (0 : Int) ≤ (k : Int) := by omega
        go_upto_region 10 with (first | ((at_builtin; (refine append_grL (by rfl) _ _ (by rfl) (xs := ([] : List Int)) (ys := y46_) (by rfl) (by have e := HL39_.out; omega) G37_ (by rfl) (by rfl) (F45_.read) (by omega) ?_; intro g50_ c51_ L56_ w52 HL56_ L56_l L56_u G52_ hC53_ hg54_)); (have o57_ := o33_.chg hC53_ (by first | omega | (simp; omega) | simp) (by omega)); (have o58_ := o34_.chg hC53_ (by first | omega | (simp; omega) | simp) (by omega)); (have o59_ := o35_.chg hC53_ (by omega)); (have o60_ := F45_.chg hC53_ (by first | omega | (simp; omega) | simp) (by omega)); (have z61_ := hC53_.size); (try simp at z61_); (have B62_ := B36_.trans (hC53_.below (by omega) (by first | omega | (simp; omega) | simp))); (clear hC53_); (have l63_ := G52_.lt); (have lit64_ := rows_lit1 (n := L56_) (d := c51_) w52 G52_.ints (by have e := HL56_.out; omega) (by first | omega | (simp; omega) | simp) (by first | omega | (simp; omega) | simp) (by have e := G52_.room; have e2 := HL56_.out; omega) true (fun _ => ⟨_, _, rfl⟩)); (have o65_ := o57_.below ((Below.refl _ _).alloc (Nat.le_refl _) (.cells #[.slice (some ⟨g50_, 0, none⟩) L56_ c51_] 26)) (by first | omega | (simp; omega) | simp)); (have o66_ := o58_.alloc (by first | omega | (simp; omega) | simp) (.cells #[.slice (some ⟨g50_, 0, none⟩) L56_ c51_] 26)); (have o67_ := o59_.alloc (.cells #[.slice (some ⟨g50_, 0, none⟩) L56_ c51_] 26)); (have o68_ := o60_.alloc (by first | omega | (simp; omega) | simp) (.cells #[.slice (some ⟨g50_, 0, none⟩) L56_ c51_] 26)); (have o69_ := G52_.alloc (.cells #[.slice (some ⟨g50_, 0, none⟩) L56_ c51_] 26)); (have B70_ := B62_.alloc (by first | omega | (simp; omega) | simp) (.cells #[.slice (some ⟨g50_, 0, none⟩) L56_ c51_] 26)); (have R71_ : Rows (w52.alloc (.cells #[.slice (some ⟨g50_, 0, none⟩) L56_ c51_] 26)) true g50_ (w52.heap.size + 1) w52.heap.size 1 ([(([] : List Int) ++ y46_)]) := by have e := lit64_; (try simp only [hsz] at e); exact e); (have a72_ : (w52.alloc (.cells #[.slice (some ⟨g50_, 0, none⟩) L56_ c51_] 26)).cell? ⟨w52.heap.size, 0, none⟩ = some (.slice (some ⟨g50_, 0, none⟩) L56_ c51_) := by simp [go_sem]); (have HL73_ : Hid (([(([] : List Int) ++ y46_)]).length = 1) := rfl)) | (at_builtin; (refine append_rows_allL (by rfl) _ _ (by rfl) (l := w.heap.size) (xss := ([(([] : List Int) ++ y46_)])) (yss := ((B.take k).reverse)) (by rfl) (by have e := HL73_.out; omega) R71_ (by rfl) (by have e := HL30_.out; omega) o67_ (by omega) (by omega) (by omega) (by omega) ?_; intro g74_ c75_ L79_ w76 HL79_ L79_l L79_u R76_ hC77_ hg78_)))
        have o81_ := o65_.chg hC77_ (by first | omega | (simp; omega) | simp) (by omega)
        have o82_ := o66_.chg hC77_ (by first | omega | (simp; omega) | simp) (by omega)
        have o83_ := o67_.chg hC77_ (by omega)
        have o84_ := o68_.chg hC77_ (by first | omega | (simp; omega) | simp) (by omega)
        have o85_ := o69_.chg hC77_ (by omega)
        have z86_ := hC77_.size
        try simp at z86_
        have B87_ := B70_.trans (hC77_.below (by omega) (by first | omega | (simp; omega) | simp))
        clear hC77_
        have l88_ := R76_.lt
        have l89_ := R76_.ge
        have HL90_ : Hid ((([(([] : List Int) ++ y46_)]) ++ ((B.take k).reverse)).length = L79_) := by show _ = _; rw [List.length_append, show ([(([] : List Int) ++ y46_)]).length = 1 from by have e := HL73_.out; omega, show ((B.take k).reverse).length = k from by have e := HL30_.out; omega, HL79_.out]
        go_wp2
        go_roundw
        case rel => exact ⟨k + 1, g74_, c75_, by go_num, (slice_n (by omega)), by omega, (by omega), (show Rows w76 true w.heap.size w76.heap.size g74_ c75_ ((B.take (k + 1)).reverse) from (by rw [take_back (by omega) Hy46_.out]; exact R76_)).more (by omega) (by first | omega | (simp; omega) | simp) (Nat.le_refl _), B87_, (by first | omega | (simp; omega) | simp), o81_, o82_⟩
        case measure => simp [intOf] <;> omega
      · obtain rfl : k = B.length := by omega
        have o33_ := k28_.below ((Below.refl _ _).alloc (Nat.le_refl _) (.cells #[] 3)) (by first | omega | (simp; omega) | simp)
        have o34_ := k29_.alloc (by first | omega | (simp; omega) | simp) (.cells #[] 3)
        have o35_ := G25_.alloc (.cells #[] 3)
        have B36_ := k26_.alloc (by first | omega | (simp; omega) | simp) (.cells #[] 3)
        have G37_ : Grow (w24.alloc (.cells #[] 3)) (w24.heap.size) 0 ([] : List Int) := by have e := grow_lit w24 ([] : List Int) (by simp); (try simp only [hsz] at e); exact e
        have l38_ := G37_.lt
        have HL39_ : Hid (([] : List Int).length = 0) := rfl
        have o40_ := o33_.below ((Below.refl _ _).alloc (Nat.le_refl _) (.cells #[] 3)) (by first | omega | (simp; omega) | simp)
        have o41_ := o34_.alloc (by first | omega | (simp; omega) | simp) (.cells #[] 3)
        have o42_ := o35_.alloc (.cells #[] 3)
        have o43_ := G37_.alloc (.cells #[] 3)
        have B44_ := B36_.alloc (by first | omega | (simp; omega) | simp) (.cells #[] 3)
        have G45_ : Grow ((w24.alloc (.cells #[] 3)).alloc (.cells #[] 3)) (w24.heap.size + 1) 0 ([] : List Int) := by have e := grow_lit (w24.alloc (.cells #[] 3)) ([] : List Int) (by simp); (try simp only [hsz] at e); exact e
        have l46_ := G45_.lt
        have HL47_ : Hid (([] : List Int).length = 0) := rfl
        have lit48_ := grid_lit2 (l := w24.heap.size) (n := 0) (d := 0) (m := 0) (e := 0) ((w24.alloc (.cells #[] 3)).alloc (.cells #[] 3)) o43_.ints (by have e := HL39_.out; first | exact e | omega) (by have e := o43_.room; have e2 := HL39_.out; omega) G45_.ints (by have e := HL47_.out; first | exact e | omega) (by have e := G45_.room; have e2 := HL47_.out; omega) (by omega) (by omega) (by first | omega | (simp; omega) | simp) (by first | omega | (simp; omega) | simp) (by first | omega | (simp; omega) | simp)
        have o49_ := o40_.below ((Below.refl _ _).alloc (Nat.le_refl _) (.cells #[.slice (some ⟨w24.heap.size, 0, none⟩) 0 0, .slice (some ⟨(w24.heap.size + 1), 0, none⟩) 0 0] 26)) (by first | omega | (simp; omega) | simp)
        have o50_ := o41_.alloc (by first | omega | (simp; omega) | simp) (.cells #[.slice (some ⟨w24.heap.size, 0, none⟩) 0 0, .slice (some ⟨(w24.heap.size + 1), 0, none⟩) 0 0] 26)
        have o51_ := o42_.alloc (.cells #[.slice (some ⟨w24.heap.size, 0, none⟩) 0 0, .slice (some ⟨(w24.heap.size + 1), 0, none⟩) 0 0] 26)
        have o52_ := o43_.alloc (.cells #[.slice (some ⟨w24.heap.size, 0, none⟩) 0 0, .slice (some ⟨(w24.heap.size + 1), 0, none⟩) 0 0] 26)
        have o53_ := G45_.alloc (.cells #[.slice (some ⟨w24.heap.size, 0, none⟩) 0 0, .slice (some ⟨(w24.heap.size + 1), 0, none⟩) 0 0] 26)
        have B54_ := B44_.alloc (by first | omega | (simp; omega) | simp) (.cells #[.slice (some ⟨w24.heap.size, 0, none⟩) 0 0, .slice (some ⟨(w24.heap.size + 1), 0, none⟩) 0 0] 26)
        have Gd55_ : Grid (((w24.alloc (.cells #[] 3)).alloc (.cells #[] 3)).alloc (.cells #[.slice (some ⟨w24.heap.size, 0, none⟩) 0 0, .slice (some ⟨(w24.heap.size + 1), 0, none⟩) 0 0] 26)) (w24.heap.size) ((w24.heap.size + 2 + 1)) (some ⟨w24.heap.size + 2, 0, none⟩) ([([] : List Int), ([] : List Int)]) := by have e := lit48_; (try simp only [hsz] at e); exact e
        have H56_ : Hid (bidB ([([] : List Int), ([] : List Int)]) = true) := by show _ = _; rw [bidB_iff]; exact two_none
        go_wp2_with fail
        refine (implBidsOk_any (some ⟨w24.heap.size + 2, 0, none⟩) 2 ([([] : List Int), ([] : List Int)]) _ _ _ Gd55_ (by first | omega | (simp; omega) | simp) (by simp)).mono ?_
        rintro e w57 ⟨he, hb57_⟩
        rw [H56_.out] at he
        subst he
        have o58_ := o49_.below hb57_ (by first | omega | (simp; omega) | simp)
        have o59_ := o50_.below hb57_ (by first | omega | (simp; omega) | simp)
        have o60_ := o51_.below hb57_ (by first | omega | (simp; omega) | simp)
        have o61_ := o52_.below hb57_ (by first | omega | (simp; omega) | simp)
        have o62_ := o53_.below hb57_ (by first | omega | (simp; omega) | simp)
        have o63_ := Gd55_.below hb57_ (by first | omega | (simp; omega) | simp)
        have z64_ := hb57_.size
        try simp at z64_
        have B65_ := B54_.trans (hb57_.mono (by first | omega | (simp; omega) | simp))
        clear hb57_
        have o66_ := o58_.below ((Below.refl _ _).alloc (Nat.le_refl _) (.cells #[.int .i64 1] 3)) (by first | omega | (simp; omega) | simp)
        have o67_ := o59_.alloc (by first | omega | (simp; omega) | simp) (.cells #[.int .i64 1] 3)
        have o68_ := o60_.alloc (.cells #[.int .i64 1] 3)
        have o69_ := o61_.alloc (.cells #[.int .i64 1] 3)
        have o70_ := o62_.alloc (.cells #[.int .i64 1] 3)
        have o71_ := o63_.alloc (by first | omega | (simp; omega) | simp) (.cells #[.int .i64 1] 3)
        have B72_ := B65_.alloc (by first | omega | (simp; omega) | simp) (.cells #[.int .i64 1] 3)
        have G73_ : Grow (w57.alloc (.cells #[.int .i64 1] 3)) (w57.heap.size) 1 ([1] : List Int) := by have e := grow_lit w57 ([1] : List Int) (by simp); (try simp only [hsz] at e); exact e
        have l74_ := G73_.lt
        have HL75_ : Hid (([1] : List Int).length = 1) := rfl
        have lit76_ := rows_lit1 (n := 1) (d := 1) (w57.alloc (.cells #[.int .i64 1] 3)) G73_.ints (by have e := HL75_.out; omega) (by first | omega | (simp; omega) | simp) (by first | omega | (simp; omega) | simp) (by have e := G73_.room; have e2 := HL75_.out; omega) true (fun _ => ⟨_, _, rfl⟩)
        have o77_ := o66_.below ((Below.refl _ _).alloc (Nat.le_refl _) (.cells #[.slice (some ⟨w57.heap.size, 0, none⟩) 1 1] 26)) (by first | omega | (simp; omega) | simp)
        have o78_ := o67_.alloc (by first | omega | (simp; omega) | simp) (.cells #[.slice (some ⟨w57.heap.size, 0, none⟩) 1 1] 26)
        have o79_ := o68_.alloc (.cells #[.slice (some ⟨w57.heap.size, 0, none⟩) 1 1] 26)
        have o80_ := o69_.alloc (.cells #[.slice (some ⟨w57.heap.size, 0, none⟩) 1 1] 26)
        have o81_ := o70_.alloc (.cells #[.slice (some ⟨w57.heap.size, 0, none⟩) 1 1] 26)
        have o82_ := o71_.alloc (by first | omega | (simp; omega) | simp) (.cells #[.slice (some ⟨w57.heap.size, 0, none⟩) 1 1] 26)
        have o83_ := G73_.alloc (.cells #[.slice (some ⟨w57.heap.size, 0, none⟩) 1 1] 26)
        have B84_ := B72_.alloc (by first | omega | (simp; omega) | simp) (.cells #[.slice (some ⟨w57.heap.size, 0, none⟩) 1 1] 26)
        have R85_ : Rows ((w57.alloc (.cells #[.int .i64 1] 3)).alloc (.cells #[.slice (some ⟨w57.heap.size, 0, none⟩) 1 1] 26)) true w57.heap.size (w57.heap.size + 1 + 1) (w57.heap.size + 1) 1 ([([1] : List Int)]) := by have e := lit76_; (try simp only [hsz] at e); exact e
        have a86_ : ((w57.alloc (.cells #[.int .i64 1] 3)).alloc (.cells #[.slice (some ⟨w57.heap.size, 0, none⟩) 1 1] 26)).cell? ⟨w57.heap.size + 1, 0, none⟩ = some (.slice (some ⟨w57.heap.size, 0, none⟩) 1 1) := by simp [go_sem]
        have HL87_ : Hid (([([1] : List Int)]).length = 1) := rfl
        have H88_ : Hid (bidB ([([1] : List Int)]) = false) := by show _ = _; rw [Bool.eq_false_iff]; intro q; have e := (bidB_bd q).1; simp at e
        go_wp2_with fail
        rw [slice_n (A := (some ⟨(w57.heap.size + 1), 0, none⟩)) (n := 1) (m := ([([1] : List Int)]).length) (c := 1) (by have e := HL87_.out; first | omega | exact e.symm)]
        refine (implBidsOk_any (some ⟨(w57.heap.size + 1), 0, none⟩) 1 ([([1] : List Int)]) _ _ _ R85_.grid (by first | omega | (simp; omega) | simp) (by simp)).mono ?_
        rintro e w89 ⟨he, hb89_⟩
        rw [H88_.out] at he
        subst he
        have o90_ := o77_.below hb89_ (by first | omega | (simp; omega) | simp)
        have o91_ := o78_.below hb89_ (by first | omega | (simp; omega) | simp)
        have o92_ := o79_.below hb89_ (by first | omega | (simp; omega) | simp)
        have o93_ := o80_.below hb89_ (by first | omega | (simp; omega) | simp)
        have o94_ := o81_.below hb89_ (by first | omega | (simp; omega) | simp)
        have o95_ := o82_.below hb89_ (by first | omega | (simp; omega) | simp)
        have o96_ := o83_.below hb89_ (by first | omega | (simp; omega) | simp)
        have o97_ := R85_.below hb89_ (by first | omega | (simp; omega) | simp)
        have o98_ := (hb89_.cell (p := ⟨w57.heap.size + 1, 0, none⟩) (by first | omega | (simp; omega) | simp)).trans a86_
        have z99_ := hb89_.size
        try simp at z99_
        have B100_ := B84_.trans (hb89_.mono (by first | omega | (simp; omega) | simp))
        clear hb89_
        have H101_ : Hid (bidB ((B.take B.length).reverse) = true) := by show _ = _; rw [List.take_length]; exact (back_iff B).trans H9_.out
        go_wp2_with fail
        rw [slice_n (A := (some ⟨g, 0, none⟩)) (n := B.length) (m := ((B.take B.length).reverse).length) (c := cg) (by have e := HL30_.out; first | omega | exact e.symm)]
        refine (implBidsOk_any (some ⟨g, 0, none⟩) cg ((B.take B.length).reverse) _ _ _ o92_.grid (by first | omega | (simp; omega) | simp) (by have e := HL30_.out; omega)).mono ?_
        rintro e w102 ⟨he, hb102_⟩
        rw [H101_.out] at he
        subst he
        have o103_ := o90_.below hb102_ (by first | omega | (simp; omega) | simp)
        have o104_ := o91_.below hb102_ (by first | omega | (simp; omega) | simp)
        have o105_ := o92_.below hb102_ (by first | omega | (simp; omega) | simp)
        have o106_ := o93_.below hb102_ (by first | omega | (simp; omega) | simp)
        have o107_ := o94_.below hb102_ (by first | omega | (simp; omega) | simp)
        have o108_ := o95_.below hb102_ (by first | omega | (simp; omega) | simp)
        have o109_ := o96_.below hb102_ (by first | omega | (simp; omega) | simp)
        have o110_ := o97_.below hb102_ (by first | omega | (simp; omega) | simp)
        have o111_ := (hb102_.cell (p := ⟨w57.heap.size + 1, 0, none⟩) (by first | omega | (simp; omega) | simp)).trans o98_
        have z112_ := hb102_.size
        have B113_ := B100_.trans (hb102_.mono (by first | omega | (simp; omega) | simp))
        clear hb102_
        go_wp2
        go_ret
        exact ⟨ret_bool rfl, B113_⟩
  · have H9_ : Hid (bidB B = false) := by show _ = _; simpa using h9_
    clear h9_
    go_wp2_with fail
    refine (implBidsOk_any A3_ c4_ B _ _ _ Gd5_.grid (by first | omega | (simp; omega) | simp) (by omega)).mono ?_
    rintro e w10 ⟨he, hb10_⟩
    rw [H9_.out] at he
    subst he
    have o11_ := o6_.below hb10_ (by first | omega | (simp; omega) | simp)
    have o12_ := Gd5_.below hb10_ (by first | omega | (simp; omega) | simp)
    have z13_ := hb10_.size
    have B14_ := B8_.trans (hb10_.mono (by first | omega | (simp; omega) | simp))
    clear hb10_
    go_wp2_with fail
    refine (specBidsOk_any A3_ c4_ B _ _ _ o12_.grid (by first | omega | (simp; omega) | simp) (by omega)).mono ?_
    rintro e w15 ⟨he, hb15_⟩
    rw [H9_.out] at he
    subst he
    have o16_ := o11_.below hb15_ (by first | omega | (simp; omega) | simp)
    have o17_ := o12_.below hb15_ (by first | omega | (simp; omega) | simp)
    have z18_ := hb15_.size
    have B19_ := B14_.trans (hb15_.mono (by first | omega | (simp; omega) | simp))
    clear hb15_
    have o20_ := o16_.below ((Below.refl _ _).alloc (Nat.le_refl _) (.cells #[] 26)) (by first | omega | (simp; omega) | simp)
    have o21_ := o17_.alloc (by first | omega | (simp; omega) | simp) (.cells #[] 26)
    have B22_ := B19_.alloc (by first | omega | (simp; omega) | simp) (.cells #[] 26)
    have R23_ : Rows (w15.alloc (.cells #[] 26)) true w15.heap.size (w15.heap.size + 1) w15.heap.size 0 ([]) := by have e := rows_lit0 w15 true; (try simp only [hsz] at e); exact e
    go_wp2
    go_loopw [6, 5] (fun kk v wr => ∃ k : Nat, ∃ g cg : Nat, kk = .int .i64 k ∧ v = .slice (some ⟨g, 0, none⟩) k cg ∧ (k ≤ B.length) ∧ w.heap.size ≤ g ∧ Rows wr true w.heap.size wr.heap.size g cg ((B.take k).reverse) ∧ Below w.heap.size w wr ∧ w15.heap.size + 1 ≤ wr.heap.size ∧ Bytes wr (w.heap.size) A0 bs ∧ GridS wr (w.heap.size) (w1.heap.size) A3_ B) (fun kk v _ => B.length - (intOf kk).toNat)
    case atStart => exact ⟨0, w15.heap.size, 0, rfl, (slice_n (by omega)), Nat.zero_le _, (by omega), (show Rows (w15.alloc (.cells #[] 26)) true w15.heap.size (w15.heap.size + 1) w15.heap.size 0 ((B.take 0).reverse) from R23_).more (by omega) (by first | omega | (simp; omega) | simp) (Nat.le_refl _), B22_, (by first | omega | (simp; omega) | simp), o20_, o21_⟩
    case round =>
      obtain ⟨k, g, cg, rfl, rfl, hk, glb, G25_, k26_, k27_, k28_, k29_⟩ := hrel
      obtain ⟨w24, rfl⟩ : ∃ x, x = wr := ⟨_, rfl⟩
      have HL30_ : Hid (((B.take k).reverse).length = k) := (by show _ = _; rw [List.length_reverse, List.length_take]; omega)
      have l31_ := G25_.lt
      have l32_ := G25_.ge
      by_cases hlt0 : k < B.length
      · have o33_ := k28_.below ((Below.refl _ _).alloc (Nat.le_refl _) (.cells #[] 3)) (by first | omega | (simp; omega) | simp)
        have o34_ := k29_.alloc (by first | omega | (simp; omega) | simp) (.cells #[] 3)
        have o35_ := G25_.alloc (.cells #[] 3)
        have B36_ := k26_.alloc (by first | omega | (simp; omega) | simp) (.cells #[] 3)
        have G37_ : Grow (w24.alloc (.cells #[] 3)) (w24.heap.size) 0 ([] : List Int) := by have e := grow_lit w24 ([] : List Int) (by simp); (try simp only [hsz] at e); exact e
        have l38_ := G37_.lt
        have HL39_ : Hid (([] : List Int).length = 0) := rfl
        obtain ⟨b40_, f41_, rfl, _, b40_h, -⟩ := o34_ (by omega)
        obtain ⟨b48_, f49_, d43_, c44_, F45_, rm47_⟩ := o34_.at_ k (by omega)
        obtain ⟨y46_, hy46_⟩ : ∃ y_, B.getD k [] = y_ := ⟨_, rfl⟩
        rw [hy46_] at c44_ F45_ rm47_
        have qy46_ := HB6.out k
        rw [hy46_] at qy46_
        have Hy46_ := Lib.hid hy46_
        clear hy46_
        have c44_ : (w24.alloc (.cells #[] 3)).cell? ⟨b40_, f41_ + k, none⟩ = some (.slice (some ⟨b48_, f49_, none⟩) y46_.length d43_) := c44_
        have c44_i : (k : Int) < (B.length : Int) := by omega
        have c44_j : (0 : Int) ≤ (k : Int) := by omega
        go_upto_region 10 with (first | ((at_builtin; (refine append_grL (by rfl) _ _ (by rfl) (xs := ([] : List Int)) (ys := y46_) (by rfl) (by have e := HL39_.out; omega) G37_ (by rfl) (by rfl) (F45_.read) (by omega) ?_; intro g50_ c51_ L56_ w52 HL56_ L56_l L56_u G52_ hC53_ hg54_)); (have o57_ := o33_.chg hC53_ (by first | omega | (simp; omega) | simp) (by omega)); (have o58_ := o34_.chg hC53_ (by first | omega | (simp; omega) | simp) (by omega)); (have o59_ := o35_.chg hC53_ (by omega)); (have o60_ := F45_.chg hC53_ (by first | omega | (simp; omega) | simp) (by omega)); (have z61_ := hC53_.size); (try simp at z61_); (have B62_ := B36_.trans (hC53_.below (by omega) (by first | omega | (simp; omega) | simp))); (clear hC53_); (have l63_ := G52_.lt); (have lit64_ := rows_lit1 (n := L56_) (d := c51_) w52 G52_.ints (by have e := HL56_.out; omega) (by first | omega | (simp; omega) | simp) (by first | omega | (simp; omega) | simp) (by have e := G52_.room; have e2 := HL56_.out; omega) true (fun _ => ⟨_, _, rfl⟩)); (have o65_ := o57_.below ((Below.refl _ _).alloc (Nat.le_refl _) (.cells #[.slice (some ⟨g50_, 0, none⟩) L56_ c51_] 26)) (by first | omega | (simp; omega) | simp)); (have o66_ := o58_.alloc (by first | omega | (simp; omega) | simp) (.cells #[.slice (some ⟨g50_, 0, none⟩) L56_ c51_] 26)); (have o67_ := o59_.alloc (.cells #[.slice (some ⟨g50_, 0, none⟩) L56_ c51_] 26)); (have o68_ := o60_.alloc (by first | omega | (simp; omega) | simp) (.cells #[.slice (some ⟨g50_, 0, none⟩) L56_ c51_] 26)); (have o69_ := G52_.alloc (.cells #[.slice (some ⟨g50_, 0, none⟩) L56_ c51_] 26)); (have B70_ := B62_.alloc (by first | omega | (simp; omega) | simp) (.cells #[.slice (some ⟨g50_, 0, none⟩) L56_ c51_] 26)); (have R71_ : Rows (w52.alloc (.cells #[.slice (some ⟨g50_, 0, none⟩) L56_ c51_] 26)) true g50_ (w52.heap.size + 1) w52.heap.size 1 ([(([] : List Int) ++ y46_)]) := by have e := lit64_; (try simp only [hsz] at e); exact e); (have a72_ : (w52.alloc (.cells #[.slice (some ⟨g50_, 0, none⟩) L56_ c51_] 26)).cell? ⟨w52.heap.size, 0, none⟩ = some (.slice (some ⟨g50_, 0, none⟩) L56_ c51_) := by simp [go_sem]); (have HL73_ : Hid (([(([] : List Int) ++ y46_)]).length = 1) := rfl)) | (at_builtin; (refine append_rows_allL (by rfl) _ _ (by rfl) (l := w.heap.size) (xss := ([(([] : List Int) ++ y46_)])) (yss := ((B.take k).reverse)) (by rfl) (by have e := HL73_.out; omega) R71_ (by rfl) (by have e := HL30_.out; omega) o67_ (by omega) (by omega) (by omega) (by omega) ?_; intro g74_ c75_ L79_ w76 HL79_ L79_l L79_u R76_ hC77_ hg78_)))
        have o81_ := o65_.chg hC77_ (by first | omega | (simp; omega) | simp) (by omega)
        have o82_ := o66_.chg hC77_ (by first | omega | (simp; omega) | simp) (by omega)
        have o83_ := o67_.chg hC77_ (by omega)
        have o84_ := o68_.chg hC77_ (by first | omega | (simp; omega) | simp) (by omega)
        have o85_ := o69_.chg hC77_ (by omega)
        have z86_ := hC77_.size
        try simp at z86_
        have B87_ := B70_.trans (hC77_.below (by omega) (by first | omega | (simp; omega) | simp))
        clear hC77_
        have l88_ := R76_.lt
        have l89_ := R76_.ge
        have HL90_ : Hid ((([(([] : List Int) ++ y46_)]) ++ ((B.take k).reverse)).length = L79_) := by show _ = _; rw [List.length_append, show ([(([] : List Int) ++ y46_)]).length = 1 from by have e := HL73_.out; omega, show ((B.take k).reverse).length = k from by have e := HL30_.out; omega, HL79_.out]
        go_wp2
        go_roundw
        case rel => exact ⟨k + 1, g74_, c75_, by go_num, (slice_n (by omega)), by omega, (by omega), (show Rows w76 true w.heap.size w76.heap.size g74_ c75_ ((B.take (k + 1)).reverse) from (by rw [take_back (by omega) Hy46_.out]; exact R76_)).more (by omega) (by first | omega | (simp; omega) | simp) (Nat.le_refl _), B87_, (by first | omega | (simp; omega) | simp), o81_, o82_⟩
        case measure => simp [intOf] <;> omega
      · obtain rfl : k = B.length := by omega
        have o33_ := k28_.below ((Below.refl _ _).alloc (Nat.le_refl _) (.cells #[] 3)) (by first | omega | (simp; omega) | simp)
        have o34_ := k29_.alloc (by first | omega | (simp; omega) | simp) (.cells #[] 3)
        have o35_ := G25_.alloc (.cells #[] 3)
        have B36_ := k26_.alloc (by first | omega | (simp; omega) | simp) (.cells #[] 3)
        have G37_ : Grow (w24.alloc (.cells #[] 3)) (w24.heap.size) 0 ([] : List Int) := by have e := grow_lit w24 ([] : List Int) (by simp); (try simp only [hsz] at e); exact e
        have l38_ := G37_.lt
        have HL39_ : Hid (([] : List Int).length = 0) := rfl
        have o40_ := o33_.below ((Below.refl _ _).alloc (Nat.le_refl _) (.cells #[] 3)) (by first | omega | (simp; omega) | simp)
        have o41_ := o34_.alloc (by first | omega | (simp; omega) | simp) (.cells #[] 3)
        have o42_ := o35_.alloc (.cells #[] 3)
        have o43_ := G37_.alloc (.cells #[] 3)
        have B44_ := B36_.alloc (by first | omega | (simp; omega) | simp) (.cells #[] 3)
        have G45_ : Grow ((w24.alloc (.cells #[] 3)).alloc (.cells #[] 3)) (w24.heap.size + 1) 0 ([] : List Int) := by have e := grow_lit (w24.alloc (.cells #[] 3)) ([] : List Int) (by simp); (try simp only [hsz] at e); exact e
        have l46_ := G45_.lt
        have HL47_ : Hid (([] : List Int).length = 0) := rfl
        have lit48_ := grid_lit2 (l := w24.heap.size) (n := 0) (d := 0) (m := 0) (e := 0) ((w24.alloc (.cells #[] 3)).alloc (.cells #[] 3)) o43_.ints (by have e := HL39_.out; first | exact e | omega) (by have e := o43_.room; have e2 := HL39_.out; omega) G45_.ints (by have e := HL47_.out; first | exact e | omega) (by have e := G45_.room; have e2 := HL47_.out; omega) (by omega) (by omega) (by first | omega | (simp; omega) | simp) (by first | omega | (simp; omega) | simp) (by first | omega | (simp; omega) | simp)
        have o49_ := o40_.below ((Below.refl _ _).alloc (Nat.le_refl _) (.cells #[.slice (some ⟨w24.heap.size, 0, none⟩) 0 0, .slice (some ⟨(w24.heap.size + 1), 0, none⟩) 0 0] 26)) (by first | omega | (simp; omega) | simp)
        have o50_ := o41_.alloc (by first | omega | (simp; omega) | simp) (.cells #[.slice (some ⟨w24.heap.size, 0, none⟩) 0 0, .slice (some ⟨(w24.heap.size + 1), 0, none⟩) 0 0] 26)
        have o51_ := o42_.alloc (.cells #[.slice (some ⟨w24.heap.size, 0, none⟩) 0 0, .slice (some ⟨(w24.heap.size + 1), 0, none⟩) 0 0] 26)
        have o52_ := o43_.alloc (.cells #[.slice (some ⟨w24.heap.size, 0, none⟩) 0 0, .slice (some ⟨(w24.heap.size + 1), 0, none⟩) 0 0] 26)
        have o53_ := G45_.alloc (.cells #[.slice (some ⟨w24.heap.size, 0, none⟩) 0 0, .slice (some ⟨(w24.heap.size + 1), 0, none⟩) 0 0] 26)
        have B54_ := B44_.alloc (by first | omega | (simp; omega) | simp) (.cells #[.slice (some ⟨w24.heap.size, 0, none⟩) 0 0, .slice (some ⟨(w24.heap.size + 1), 0, none⟩) 0 0] 26)
        have Gd55_ : Grid (((w24.alloc (.cells #[] 3)).alloc (.cells #[] 3)).alloc (.cells #[.slice (some ⟨w24.heap.size, 0, none⟩) 0 0, .slice (some ⟨(w24.heap.size + 1), 0, none⟩) 0 0] 26)) (w24.heap.size) ((w24.heap.size + 2 + 1)) (some ⟨w24.heap.size + 2, 0, none⟩) ([([] : List Int), ([] : List Int)]) := by have e := lit48_; (try simp only [hsz] at e); exact e
        have H56_ : Hid (bidB ([([] : List Int), ([] : List Int)]) = true) := by show _ = _; rw [bidB_iff]; exact two_none
        go_wp2_with fail
        refine (implBidsOk_any (some ⟨w24.heap.size + 2, 0, none⟩) 2 ([([] : List Int), ([] : List Int)]) _ _ _ Gd55_ (by first | omega | (simp; omega) | simp) (by simp)).mono ?_
        rintro e w57 ⟨he, hb57_⟩
        rw [H56_.out] at he
        subst he
        have o58_ := o49_.below hb57_ (by first | omega | (simp; omega) | simp)
        have o59_ := o50_.below hb57_ (by first | omega | (simp; omega) | simp)
        have o60_ := o51_.below hb57_ (by first | omega | (simp; omega) | simp)
        have o61_ := o52_.below hb57_ (by first | omega | (simp; omega) | simp)
        have o62_ := o53_.below hb57_ (by first | omega | (simp; omega) | simp)
        have o63_ := Gd55_.below hb57_ (by first | omega | (simp; omega) | simp)
        have z64_ := hb57_.size
        try simp at z64_
        have B65_ := B54_.trans (hb57_.mono (by first | omega | (simp; omega) | simp))
        clear hb57_
        have o66_ := o58_.below ((Below.refl _ _).alloc (Nat.le_refl _) (.cells #[.int .i64 1] 3)) (by first | omega | (simp; omega) | simp)
        have o67_ := o59_.alloc (by first | omega | (simp; omega) | simp) (.cells #[.int .i64 1] 3)
        have o68_ := o60_.alloc (.cells #[.int .i64 1] 3)
        have o69_ := o61_.alloc (.cells #[.int .i64 1] 3)
        have o70_ := o62_.alloc (.cells #[.int .i64 1] 3)
        have o71_ := o63_.alloc (by first | omega | (simp; omega) | simp) (.cells #[.int .i64 1] 3)
        have B72_ := B65_.alloc (by first | omega | (simp; omega) | simp) (.cells #[.int .i64 1] 3)
        have G73_ : Grow (w57.alloc (.cells #[.int .i64 1] 3)) (w57.heap.size) 1 ([1] : List Int) := by have e := grow_lit w57 ([1] : List Int) (by simp); (try simp only [hsz] at e); exact e
        have l74_ := G73_.lt
        have HL75_ : Hid (([1] : List Int).length = 1) := rfl
        have lit76_ := rows_lit1 (n := 1) (d := 1) (w57.alloc (.cells #[.int .i64 1] 3)) G73_.ints (by have e := HL75_.out; omega) (by first | omega | (simp; omega) | simp) (by first | omega | (simp; omega) | simp) (by have e := G73_.room; have e2 := HL75_.out; omega) true (fun _ => ⟨_, _, rfl⟩)
        have o77_ := o66_.below ((Below.refl _ _).alloc (Nat.le_refl _) (.cells #[.slice (some ⟨w57.heap.size, 0, none⟩) 1 1] 26)) (by first | omega | (simp; omega) | simp)
        have o78_ := o67_.alloc (by first | omega | (simp; omega) | simp) (.cells #[.slice (some ⟨w57.heap.size, 0, none⟩) 1 1] 26)
        have o79_ := o68_.alloc (.cells #[.slice (some ⟨w57.heap.size, 0, none⟩) 1 1] 26)
        have o80_ := o69_.alloc (.cells #[.slice (some ⟨w57.heap.size, 0, none⟩) 1 1] 26)
        have o81_ := o70_.alloc (.cells #[.slice (some ⟨w57.heap.size, 0, none⟩) 1 1] 26)
        have o82_ := o71_.alloc (by first | omega | (simp; omega) | simp) (.cells #[.slice (some ⟨w57.heap.size, 0, none⟩) 1 1] 26)
        have o83_ := G73_.alloc (.cells #[.slice (some ⟨w57.heap.size, 0, none⟩) 1 1] 26)
        have B84_ := B72_.alloc (by first | omega | (simp; omega) | simp) (.cells #[.slice (some ⟨w57.heap.size, 0, none⟩) 1 1] 26)
        have R85_ : Rows ((w57.alloc (.cells #[.int .i64 1] 3)).alloc (.cells #[.slice (some ⟨w57.heap.size, 0, none⟩) 1 1] 26)) true w57.heap.size (w57.heap.size + 1 + 1) (w57.heap.size + 1) 1 ([([1] : List Int)]) := by have e := lit76_; (try simp only [hsz] at e); exact e
        have a86_ : ((w57.alloc (.cells #[.int .i64 1] 3)).alloc (.cells #[.slice (some ⟨w57.heap.size, 0, none⟩) 1 1] 26)).cell? ⟨w57.heap.size + 1, 0, none⟩ = some (.slice (some ⟨w57.heap.size, 0, none⟩) 1 1) := by simp [go_sem]
        have HL87_ : Hid (([([1] : List Int)]).length = 1) := rfl
        have H88_ : Hid (bidB ([([1] : List Int)]) = false) := by show _ = _; rw [Bool.eq_false_iff]; intro q; have e := (bidB_bd q).1; simp at e
        go_wp2_with fail
        rw [slice_n (A := (some ⟨(w57.heap.size + 1), 0, none⟩)) (n := 1) (m := ([([1] : List Int)]).length) (c := 1) (by have e := HL87_.out; first | omega | exact e.symm)]
        refine (implBidsOk_any (some ⟨(w57.heap.size + 1), 0, none⟩) 1 ([([1] : List Int)]) _ _ _ R85_.grid (by first | omega | (simp; omega) | simp) (by simp)).mono ?_
        rintro e w89 ⟨he, hb89_⟩
        rw [H88_.out] at he
        subst he
        have o90_ := o77_.below hb89_ (by first | omega | (simp; omega) | simp)
        have o91_ := o78_.below hb89_ (by first | omega | (simp; omega) | simp)
        have o92_ := o79_.below hb89_ (by first | omega | (simp; omega) | simp)
        have o93_ := o80_.below hb89_ (by first | omega | (simp; omega) | simp)
        have o94_ := o81_.below hb89_ (by first | omega | (simp; omega) | simp)
        have o95_ := o82_.below hb89_ (by first | omega | (simp; omega) | simp)
        have o96_ := o83_.below hb89_ (by first | omega | (simp; omega) | simp)
        have o97_ := R85_.below hb89_ (by first | omega | (simp; omega) | simp)
        have o98_ := (hb89_.cell (p := ⟨w57.heap.size + 1, 0, none⟩) (by first | omega | (simp; omega) | simp)).trans a86_
        have z99_ := hb89_.size
        try simp at z99_
        have B100_ := B84_.trans (hb89_.mono (by first | omega | (simp; omega) | simp))
        clear hb89_
        have H101_ : Hid (bidB ((B.take B.length).reverse) = false) := by show _ = _; rw [List.take_length]; exact (back_iff B).trans H9_.out
        go_wp2_with fail
        rw [slice_n (A := (some ⟨g, 0, none⟩)) (n := B.length) (m := ((B.take B.length).reverse).length) (c := cg) (by have e := HL30_.out; first | omega | exact e.symm)]
        refine (implBidsOk_any (some ⟨g, 0, none⟩) cg ((B.take B.length).reverse) _ _ _ o92_.grid (by first | omega | (simp; omega) | simp) (by have e := HL30_.out; omega)).mono ?_
        rintro e w102 ⟨he, hb102_⟩
        rw [H101_.out] at he
        subst he
        have o103_ := o90_.below hb102_ (by first | omega | (simp; omega) | simp)
        have o104_ := o91_.below hb102_ (by first | omega | (simp; omega) | simp)
        have o105_ := o92_.below hb102_ (by first | omega | (simp; omega) | simp)
        have o106_ := o93_.below hb102_ (by first | omega | (simp; omega) | simp)
        have o107_ := o94_.below hb102_ (by first | omega | (simp; omega) | simp)
        have o108_ := o95_.below hb102_ (by first | omega | (simp; omega) | simp)
        have o109_ := o96_.below hb102_ (by first | omega | (simp; omega) | simp)
        have o110_ := o97_.below hb102_ (by first | omega | (simp; omega) | simp)
        have o111_ := (hb102_.cell (p := ⟨w57.heap.size + 1, 0, none⟩) (by first | omega | (simp; omega) | simp)).trans o98_
        have z112_ := hb102_.size
        have B113_ := B100_.trans (hb102_.mono (by first | omega | (simp; omega) | simp))
        clear hb102_
        go_wp2
        go_ret
        exact ⟨ret_bool rfl, B113_⟩

set_option maxRecDepth 10000 in
set_option maxHeartbeats 400000 in
theorem fnBidsOk_big (A0 : Option Addr) (c0 : Nat) (bs : List Int) (w : World) (hl : ¬ bs.length ≤ 1048576) (hm : bs.length ≤ 9223372036854775807) :
    Calls Try.prog 3 #[.slice A0 bs.length c0] w fun e w' => e = .returned (.bool true) ∧ Below w.heap.size w w' := by
  go_enter Try.func3, Try.ntmps3
  go_wp2
  go_ret
  exact ⟨rfl, Below.refl _ _⟩

theorem fnBidsOk_all (A0 : Option Addr) (c0 : Nat) (bs : List Int) (w : World) (h0 : Bytes w w.heap.size A0 bs) (hm : bs.length ≤ 9223372036854775807) (hc0 : bs.length ≤ c0) :
    Calls Try.prog 3 #[.slice A0 bs.length c0] w fun e w' => e = .returned (.bool true) ∧ Below w.heap.size w w' := by
  by_cases hl : bs.length ≤ 1048576
  · exact fnBidsOk_walk A0 c0 bs w h0 hl hc0
  · exact fnBidsOk_big A0 c0 bs w hl hm

end Go.Proofs.Ytpdlppmkjkbboaa
