/-
  Both functions OtherCase return the other case, and make new memory only.
-/
import Derived.Test.YtilhholjbjhaeaaCaseOk
import Derived.Test.YtilhholjbjhaeaaClone
import Derived.Deep.RegionHeld3
import Derived.Deep.AppendLies
namespace Go.Proofs.Ytilhholjbjhaeaa
open Go.RowKit

set_option maxRecDepth 10000 in
set_option maxHeartbeats 1000000 in
theorem implOtherCase_yes (E : Int) (A : Option Addr) (c : Nat) (xs : List Int) (w : World) (lo hi : Nat) (h : Ints w lo hi A xs) (hh : hi ≤ w.heap.size) (hok : caseOkB E xs = true) :
    Calls Try.prog 16 #[.agg #[.int .i64 E, .slice A xs.length c]] w (RetCaseB w (xs.sum - E) (xs) true) := by
  have hs := caseOk_small hok
  have hbd := caseOk_bd hok
  have HO := Lib.hid hok
  clear hok
  have k0 := (h.alloc hh (.cells #[.int .i64 E, .slice A xs.length c] 31)).alloc (by simp; omega) (.cells #[.int .i64 0, .slice none 0 0] 31)
  obtain ⟨a0, r0, f0, B0, hz0⟩ := boxes2 w (.int .i64 E) (.slice A xs.length c) (.int .i64 0) (.slice none 0 0) 31 31
  have HZ := Lib.hid hz0
  clear hz0
  go_enter Try.func16, Try.ntmps16
  go_wp2_with fail
  refine (implCaseOk_yes E A c xs _ _ _ k0 (by simp; omega) (by omega) HO.out).mono ?_
  rintro e w1 ⟨rfl, hb1⟩
  rw [HZ.out] at hb1
  obtain ⟨a1, a1'⟩ := keep2 hb1 a0 (by omega)
  have r1 := keep2 hb1 r0 (by omega)
  have f1 := keep2f hb1 f0 (by omega)
  have k1 := k0.below hb1 (by omega)
  have hz1 : w.heap.size + 2 ≤ w1.heap.size := by rw [← HZ.out]; exact hb1.size
  have B1 := B0.trans (hb1.mono (by omega))
  clear hb1 a0 r0 f0 k0 h
  have hz1' : hi ≤ w1.heap.size := by omega
  have hwr : IntKind.i64.wrap (xs.sum - E) = xs.sum - E := IntWalk.i64_in _ (by omega)
  go_wp2_with fail
  go_region_held3 (fun w' => w'.cell? ⟨w.heap.size, 0, none⟩ = some (.int .i64 E) ∧ w'.cell? ⟨w.heap.size, 1, none⟩ = some (.slice A xs.length c)) (first | exact ⟨a2, a2'⟩ | go_keep)
    (first
      | (go_at_call 37
         refine (sumOf_any A c xs _ lo hi k1.drew hs).mono ?_
         rintro e w' ⟨rfl, rfl⟩)
      | (go_at_call 38
         refine (clone_any A c xs _ lo hi k1.drew (by exact hz1') (by omega) (by omega)).mono ?_
         rintro e w2 ⟨A2, c2, rfl, ho2, hbq2⟩
         have hb2 : Below w1.heap.size w1 w2 := (Below.refl _ w1).drew.trans (hbq2.mono (by exact Nat.le_refl _))
         obtain ⟨a2, a2'⟩ := keep2 hb2 ⟨a1, a1'⟩ (by omega)
         obtain ⟨r2, r2'⟩ := keep2 hb2 r1 (by omega)
         obtain ⟨f2, f2'⟩ := keep2f hb2 f1 (by omega)
         have B2 := B1.trans (hb2.mono (by omega))
         have hz2 := hb2.size))
  go_wp2
  refine bodyPost_ret (v := .tuple #[.agg #[.int .i64 (xs.sum - E), .slice (A2) (xs).length c2], .bool true]) (by simp [results, Try.results16, go_sem, r2, r2']) rfl ?_
  have ho2x : Own w2 (w.heap.size + 2) w2.heap.size (A2) (xs) := ho2.more (by exact hz1) (Nat.le_refl _)
  exact ⟨_, c2, rfl, ((ho2x.set_out (.inl (by simp)) _).set_out (.inl (by simp)) _).more (by omega) (by simp), (B2.setCell (by simp) _).setCell (by simp) _⟩

set_option maxRecDepth 10000 in
set_option maxHeartbeats 400000 in
theorem implOtherCase_no (E : Int) (A : Option Addr) (c : Nat) (xs : List Int) (w : World) (lo hi : Nat) (h : Ints w lo hi A xs) (hh : hi ≤ w.heap.size) (hl : xs.length ≤ 1152921504606846976) (hok : caseOkB E xs = false) :
    Calls Try.prog 16 #[.agg #[.int .i64 E, .slice A xs.length c]] w (RetCaseB w 0 [] false) := by
  have HO := Lib.hid hok
  clear hok
  have k0 := (h.alloc hh (.cells #[.int .i64 E, .slice A xs.length c] 31)).alloc (by simp; omega) (.cells #[.int .i64 0, .slice none 0 0] 31)
  obtain ⟨a0, r0, f0, B0, hz0⟩ := boxes2 w (.int .i64 E) (.slice A xs.length c) (.int .i64 0) (.slice none 0 0) 31 31
  have HZ := Lib.hid hz0
  clear hz0
  go_enter Try.func16, Try.ntmps16
  go_wp2_with fail
  refine (implCaseOk_no E A c xs _ _ _ k0 (by simp; omega) hl HO.out).mono ?_
  rintro e w1 ⟨rfl, hb1⟩
  rw [HZ.out] at hb1
  obtain ⟨r1, r1'⟩ := keep2 hb1 r0 (by omega)
  obtain ⟨f1, f1'⟩ := keep2f hb1 f0 (by omega)
  have B1 := B0.trans (hb1.mono (by omega))
  clear hb1 a0 r0 f0
  go_wp2
  refine bodyPost_ret (v := .tuple #[.agg #[.int .i64 0, .slice none 0 0], .bool false]) (by simp [results, Try.results16, go_sem, r1, r1']) rfl ?_
  exact ⟨none, 0, rfl, Own.nil, (B1.setCell (by simp) _).setCell (by simp) _⟩

theorem implOtherCase_any (E : Int) (A : Option Addr) (c : Nat) (xs : List Int) (w : World) (lo hi : Nat) (h : Ints w lo hi A xs) (hh : hi ≤ w.heap.size) (hl : xs.length ≤ 1152921504606846976) :
    Calls Try.prog 16 #[.agg #[.int .i64 E, .slice A xs.length c]] w (RetCaseB w (otherE E xs) (sameXs E xs) (caseOkB E xs)) := by
  by_cases hok : caseOkB E xs = true
  · have e := implOtherCase_yes E A c xs w lo hi h hh hok
    simpa [otherE, sameXs, hok] using e
  · have hok' : caseOkB E xs = false := by simpa using hok
    have e := implOtherCase_no E A c xs w lo hi h hh hl hok'
    simpa [otherE, sameXs, hok'] using e

end Go.Proofs.Ytilhholjbjhaeaa
