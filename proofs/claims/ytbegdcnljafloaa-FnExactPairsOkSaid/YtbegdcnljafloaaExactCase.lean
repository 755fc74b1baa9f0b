/-
  What the helpers of the exact laws on cases return, and what they write. No condition but lengths that fit.
-/
import Derived.Test.YtbegdcnljafloaaExactLeaf
namespace Go.Proofs.Ytbegdcnljafloaa
open Go.RowKit

set_option maxRecDepth 10000 in
set_option maxHeartbeats 400000 in
theorem szCase_yes (E : Int) (A : Option Addr) (c n : Nat) (left : Int) (w : World) (hl : (n : Int) ≤ left) (h2 : left ≤ 1048576) :
    Calls Try.prog 37 #[.agg #[.int .i64 E, .slice A n c], .int .i64 left] w fun e w' => e = .returned (.int .i64 (left - n)) ∧ Below w.heap.size w w' := by
  go_enter Try.func37, Try.ntmps37
  go_wp2_with (go_at_call 66; refine (szIntS_yes _ _ _ _ _ hl h2).mono ?_; rintro e w' ⟨rfl, rfl⟩)
  go_ret
  exact ⟨rfl, (Below.refl _ _).alloc (Nat.le_refl _) _⟩
set_option maxRecDepth 10000 in
set_option maxHeartbeats 400000 in
theorem szCase_no (E : Int) (A : Option Addr) (c n : Nat) (left : Int) (w : World) (hl : left < (n : Int)) (h0 : 0 ≤ left) (h2 : n ≤ 9223372036854775807) :
    Calls Try.prog 37 #[.agg #[.int .i64 E, .slice A n c], .int .i64 left] w fun e w' => e = .returned (.int .i64 (-1)) ∧ Below w.heap.size w w' := by
  go_enter Try.func37, Try.ntmps37
  go_wp2_with (go_at_call 66; refine (szIntS_no _ _ _ _ _ hl h0 h2).mono ?_; rintro e w' ⟨rfl, rfl⟩)
  go_ret
  exact ⟨rfl, (Below.refl _ _).alloc (Nat.le_refl _) _⟩

set_option maxRecDepth 10000 in
set_option maxHeartbeats 400000 in
theorem toCase_any (E : Int) (A : Option Addr) (c : Nat) (xs : List Int) (w : World) (lo hi : Nat) (h : Ints w lo hi A xs) (hh : hi ≤ w.heap.size) (hl : xs.length ≤ 1048576) :
    Calls Try.prog 38 #[.agg #[.int .i64 E, .slice A xs.length c]] w (RetCase w E xs) := by
  go_enter Try.func38, Try.ntmps38
  have k1 := ((h.alloc hh (.cells #[.int .i64 E, .slice A xs.length c] 45)).alloc (by simp; omega) (.cells #[.int .i64 0, .slice none 0 0] 31)).alloc (by simp; omega) (.cells #[.int .i64 E, .slice none 0 0] 31)
  go_wp2_with fail
  refine (toIntS_any A c xs _ lo hi k1 (by simp; omega) hl).mono ?_
  rintro e w1 ⟨A', c', rfl, ho, hb⟩
  obtain ⟨hc, hf⟩ := bcell hb
  have hz := hb.size
  simp at hz
  go_wp2
  refine bodyPost_ret (v := .agg #[.int .i64 E, .slice A' xs.length c']) (by simp [results, Try.results38, go_sem, hc]) rfl ?_
  have hbb := ((((Below.refl w.heap.size w).alloc (Nat.le_refl _) (.cells #[.int .i64 E, .slice A xs.length c] 45)).alloc (by simp) (.cells #[.int .i64 0, .slice none 0 0] 31)).alloc (by simp; omega) (.cells #[.int .i64 E, .slice none 0 0] 31)).trans (hb.mono (by simp; omega))
  have ho' : Own w1 (w.heap.size + 1 + 1 + 1) w1.heap.size A' xs := by simpa using ho
  refine ⟨A', c', rfl, ?_, ((hbb.setCell (by simp; omega) _).setCell (by simp) _).setCell (by simp) _⟩
  exact (((ho'.set_out (.inl (by simp)) _).set_out (.inl (by simp)) _).set_out (.inl (by simp)) _).more (by omega) (by simp)

set_option maxRecDepth 10000 in
set_option maxHeartbeats 400000 in
theorem eqCase_any (E E' : Int) (A A' : Option Addr) (c c' : Nat) (xs ys : List Int) (w : World) (lo hi lo' hi' : Nat) (h : Ints w lo hi A xs) (h' : Ints w lo' hi' A' ys) (hh : hi ≤ w.heap.size) (hh' : hi' ≤ w.heap.size) (hl : xs.length ≤ 1152921504606846976) :
    Calls Try.prog 39 #[.agg #[.int .i64 E, .slice A xs.length c], .agg #[.int .i64 E', .slice A' ys.length c']] w fun e w' => e = .returned (.bool (decide (E = E' ∧ xs = ys))) ∧ Below w.heap.size w w' := by
  have k1 := (h.alloc hh (.cells #[.int .i64 E, .slice A xs.length c] 31)).alloc (by simp; omega) (.cells #[.int .i64 E', .slice A' ys.length c'] 31)
  have k2 := (h'.alloc hh' (.cells #[.int .i64 E, .slice A xs.length c] 31)).alloc (by simp; omega) (.cells #[.int .i64 E', .slice A' ys.length c'] 31)
  by_cases hE : E = E'
  · have hX : (E != E') = false := by simp [hE]
    have HE := Lib.hid hE
    clear hE
    by_cases hxy : xs = ys
    · have HX := Lib.hid hxy
      clear hxy
      go_enter Try.func39, Try.ntmps39
      go_wp2_with (go_at_call 34; refine (eqIntS_yes _ _ _ _ _ _ _ _ _ _ _ k1 k2 hl HX.out).mono ?_; rintro e w' ⟨rfl, n, rfl⟩)
      go_ret
      exact ⟨ret_bool (by simp [HE.out, HX.out]), below_drewN (((Below.refl _ _).alloc (Nat.le_refl _) _).alloc (by simp) _) _⟩
    · have HX := Lib.hid hxy
      clear hxy
      go_enter Try.func39, Try.ntmps39
      go_wp2_with (go_at_call 34; refine (eqIntS_no _ _ _ _ _ _ _ _ _ _ _ k1 k2 hl HX.out).mono ?_; rintro e w' ⟨rfl, n, rfl⟩)
      go_ret
      exact ⟨ret_bool (by simp [HX.out]), below_drewN (((Below.refl _ _).alloc (Nat.le_refl _) _).alloc (by simp) _) _⟩
  · have hX : (E != E') = true := by simp [hE]
    have HE := Lib.hid hE
    clear hE
    go_enter Try.func39, Try.ntmps39
    go_wp2
    go_ret
    exact ⟨ret_bool (by simp [HE.out]), ((Below.refl _ _).alloc (Nat.le_refl _) _).alloc (by simp) _⟩

theorem eqCase_yes (E : Int) (A A' : Option Addr) (c c' : Nat) (xs : List Int) (w : World) (lo hi lo' hi' : Nat) (h : Ints w lo hi A xs) (h' : Ints w lo' hi' A' xs) (hh : hi ≤ w.heap.size) (hh' : hi' ≤ w.heap.size) (hl : xs.length ≤ 1152921504606846976) :
    Calls Try.prog 39 #[.agg #[.int .i64 E, .slice A xs.length c], .agg #[.int .i64 E, .slice A' xs.length c']] w fun e w' => e = .returned (.bool true) ∧ Below w.heap.size w w' :=
  (eqCase_any E E A A' c c' xs xs w lo hi lo' hi' h h' hh hh' hl).mono fun _ _ ⟨e1, e2⟩ => ⟨by rw [e1]; simp, e2⟩

end Go.Proofs.Ytbegdcnljafloaa
