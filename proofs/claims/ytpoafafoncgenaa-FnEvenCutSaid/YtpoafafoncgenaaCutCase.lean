/-
  Both functions CutCase return the case with cut claims, and make new memory only.
-/
import Derived.Test.YtpoafafoncgenaaCaseOk
import Derived.Test.YtpoafafoncgenaaLeast
import Derived.Deep.RegionHeld3
import Derived.Deep.AppendLies
namespace Go.Proofs.Ytpoafafoncgenaa
open Go.RowKit

set_option maxRecDepth 10000 in
set_option maxHeartbeats 1000000 in
theorem implCutCase_yes (E : Int) (A : Option Addr) (c : Nat) (xs : List Int) (w : World) (lo hi : Nat) (h : Ints w lo hi A xs) (hh : hi ≤ w.heap.size) (hok : caseOkB E xs = true) :
    Calls Try.prog 53 #[.agg #[.int .i64 E, .slice A xs.length c]] w (RetCaseB w (E) (cutRow E xs) true) := by
  obtain ⟨i0, hi0, hq0, hq1, hq2⟩ := info_parts info_int
  have hs := caseOk_small hok
  have hbd := caseOk_bd hok
  have HO := Lib.hid hok
  clear hok
  have k0 := (h.alloc hh (.cells #[.int .i64 E, .slice A xs.length c] 25)).alloc (by simp; omega) (.cells #[.int .i64 0, .slice none 0 0] 25)
  obtain ⟨a0, r0, f0, B0, hz0⟩ := boxes2 w (.int .i64 E) (.slice A xs.length c) (.int .i64 0) (.slice none 0 0) 25 25
  have HZ := Lib.hid hz0
  clear hz0
  go_enter Try.func53, Try.ntmps53
  go_wp2_with fail
  refine (implCaseOk_yes E A c xs _ _ _ k0 (by simp; omega) (by omega) HO.out).mono ?_
  rintro e w1 ⟨rfl, hb1⟩
  rw [HZ.out] at hb1
  obtain ⟨a1, a1'⟩ := keep2 hb1 a0 (by omega)
  have r1 := keep2 hb1 r0 (by omega)
  have f1 := keep2f hb1 f0 (by omega)
  have k1 := k0.below hb1 (by omega)
  have hz1 : w.heap.size + 2 ≤ w1.heap.size := by rw [← HZ.out]; exact hb1.size
  have B1 := B0.trans (hb1.mono (by omega))
  clear hb1 a0 r0 f0 k0 h
  have hz1' : hi ≤ w1.heap.size := by omega
  have hRl : (cutRow E xs).length = xs.length := cutRow_length E xs
  have HRl := Lib.hid hRl
  clear hRl
  go_wp2_with (at_make; refine wpList_make_full _ rfl _ _ _ rfl w1.heap.size 3 i0 _ 1 Try.underlying23 hi0 hq0 hq1 .i64 .i64 xs.length xs.length xs.length rfl rfl rfl rfl (by rw [hq2]; omega) (by unfold maxLen; omega) (Nat.le_refl _) ?_; intro wm hownm hgrowm; have bm : Below w1.heap.size w1 wm := (Below.refl _ _).grown hgrowm (Nat.le_refl _) (by intro k hk; cases hk); have hownm' := fill_start (R := cutRow E xs) HRl.out hownm; clear hownm hgrowm; obtain ⟨am, am'⟩ := keep2 bm ⟨a1, a1'⟩ (by omega); have zm := bm.size)
  go_loopw [18] (fun i wr => ∃ k : Nat, k ≤ xs.length ∧ i = .int .i64 k ∧ wr.ownsRow w1.heap.size 3 1 (.slice (some ⟨w1.heap.size, 0, none⟩) xs.length xs.length) xs.length (ints (fillTo (cutRow E xs) k)) ∧ Below w1.heap.size w1 wr) (fun i _ => xs.length - (intOf i).toNat)
  case atStart => exact ⟨0, Nat.zero_le _, rfl, hownm', bm⟩
  case round =>
    obtain ⟨k, hk, rfl, hown, hbel⟩ := hrel
    clear hownm' bm
    obtain ⟨ar, ar'⟩ := keep2 hbel ⟨a1, a1'⟩ (by omega)
    have zr := hbel.size
    by_cases hlt : k < xs.length
    · obtain ⟨b, o, rfl, _, hbh, hc⟩ := (k1.below hbel (by omega)).at_ hlt
      obtain ⟨hd, hf⟩ := fill_cell hown HRl.out hlt
      have hst := fill_more hown (by rw [HRl.out]; exact hlt) (if E < xs[k] then E else xs[k]) (cutRow_at E xs k hlt)
      have hbel' := hbel.setCell (p := ⟨w1.heap.size, k, none⟩) (Nat.le_refl _) (.int .i64 (if E < xs[k] then E else xs[k]))
      have H := Lib.hid (And.intro hst hbel')
      clear hst hbel' hown hbel
      go_wp2
      go_roundw
      case rel => exact ⟨k + 1, by omega, by go_num, H.out.1, H.out.2⟩
      case measure => simp [intOf]; omega
    · obtain rfl : k = xs.length := by omega
      have how := fill_end hown HRl.out
      obtain ⟨rr, rr'⟩ := keep2 hbel r1 (by omega)
      obtain ⟨fr, fr'⟩ := keep2f hbel f1 (by omega)
      have Br := B1.trans (hbel.mono (by omega))
      have H := Lib.hid (And.intro how Br)
      clear how Br hown hbel
      go_wp2
      refine bodyPost_ret (v := .tuple #[.agg #[.int .i64 (E), .slice (some ⟨w1.heap.size, 0, none⟩) xs.length xs.length], .bool true]) (by simp [results, Try.results53, go_sem, rr, rr']) rfl ?_
      refine ⟨some ⟨w1.heap.size, 0, none⟩, xs.length, by rw [HRl.out], ?_, (H.out.2.setCell (by simp) _).setCell (by simp) _⟩
      exact ((H.out.1.set_out (.inl (by show w.heap.size + 1 < _; omega)) _).set_out (.inl (by show w.heap.size + 1 < _; omega)) _).more (by omega) (by simp)

set_option maxRecDepth 10000 in
set_option maxHeartbeats 400000 in
theorem implCutCase_no (E : Int) (A : Option Addr) (c : Nat) (xs : List Int) (w : World) (lo hi : Nat) (h : Ints w lo hi A xs) (hh : hi ≤ w.heap.size) (hl : xs.length ≤ 1152921504606846976) (hok : caseOkB E xs = false) :
    Calls Try.prog 53 #[.agg #[.int .i64 E, .slice A xs.length c]] w (RetCaseB w 0 [] false) := by
  have HO := Lib.hid hok
  clear hok
  have k0 := (h.alloc hh (.cells #[.int .i64 E, .slice A xs.length c] 25)).alloc (by simp; omega) (.cells #[.int .i64 0, .slice none 0 0] 25)
  obtain ⟨a0, r0, f0, B0, hz0⟩ := boxes2 w (.int .i64 E) (.slice A xs.length c) (.int .i64 0) (.slice none 0 0) 25 25
  have HZ := Lib.hid hz0
  clear hz0
  go_enter Try.func53, Try.ntmps53
  go_wp2_with fail
  refine (implCaseOk_no E A c xs _ _ _ k0 (by simp; omega) hl HO.out).mono ?_
  rintro e w1 ⟨rfl, hb1⟩
  rw [HZ.out] at hb1
  obtain ⟨r1, r1'⟩ := keep2 hb1 r0 (by omega)
  obtain ⟨f1, f1'⟩ := keep2f hb1 f0 (by omega)
  have B1 := B0.trans (hb1.mono (by omega))
  clear hb1 a0 r0 f0
  go_wp2
  refine bodyPost_ret (v := .tuple #[.agg #[.int .i64 0, .slice none 0 0], .bool false]) (by simp [results, Try.results53, go_sem, r1, r1']) rfl ?_
  exact ⟨none, 0, rfl, Own.nil, (B1.setCell (by simp) _).setCell (by simp) _⟩

theorem implCutCase_any (E : Int) (A : Option Addr) (c : Nat) (xs : List Int) (w : World) (lo hi : Nat) (h : Ints w lo hi A xs) (hh : hi ≤ w.heap.size) (hl : xs.length ≤ 1152921504606846976) :
    Calls Try.prog 53 #[.agg #[.int .i64 E, .slice A xs.length c]] w (RetCaseB w (sameE E xs) (cutXs E xs) (caseOkB E xs)) := by
  by_cases hok : caseOkB E xs = true
  · have e := implCutCase_yes E A c xs w lo hi h hh hok
    simpa [sameE, cutXs, hok] using e
  · have hok' : caseOkB E xs = false := by simpa using hok
    have e := implCutCase_no E A c xs w lo hi h hh hl hok'
    simpa [sameE, cutXs, hok'] using e

end Go.Proofs.Ytpoafafoncgenaa
