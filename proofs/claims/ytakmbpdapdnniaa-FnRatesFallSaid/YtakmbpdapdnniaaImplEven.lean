/-
  EvenAwards, EvenLevel, EvenLosses and LossLevel of the program: what they return of each case, and of what is none; they make new memory only. No condition but a length that fits.
-/
import Derived.Test.YtakmbpdapdnniaaEvenRow
import Derived.Test.YtakmbpdapdnniaaOtherCase
import Derived.Test.YtakmbpdapdnniaaMax
import Derived.Deep.RegionHeld3
namespace Go.Proofs.Ytakmbpdapdnniaa
open Go.RowKit

theorem even_part {E : Int} {xs : List Int} (h : caseOkB E xs = true) : partB (inP xs) = true := by
  have h1 := (caseOk_iff E xs).1 h
  exact (partB_iff _).2 ⟨by rw [inP_length]; exact h1.1, by rw [inP_length]; exact h1.2.1, inP_rg h⟩
theorem even_is {E : Int} {xs : List Int} (h : caseOkB E xs = true) : evenB (inP xs) (48 * E) = true := by
  have h1 := (caseOk_iff E xs).1 h
  exact (evenB_iff _ _).2 ⟨even_part h, ⟨by omega, by rw [inP_sum]; omega⟩, even_whole h⟩
def evenAws (E : Int) (xs : List Int) : List Int := if caseOkB E xs = true then evenAw E xs else []
def evenLvl (E : Int) (xs : List Int) : Int := if caseOkB E xs = true then evenLv E xs else -1
def evenLos (E : Int) (xs : List Int) : List Int := if caseOkB E xs = true then evenLo E xs else []
def lossLvl (E : Int) (xs : List Int) : Int := if caseOkB E xs = true then evenLv (xs.sum - E) xs else -1
theorem evenAws_len (E : Int) (xs : List Int) : (evenAws E xs).length ≤ xs.length := by unfold evenAws; split <;> simp [evenAw_length]
theorem evenLos_len (E : Int) (xs : List Int) : (evenLos E xs).length ≤ xs.length := by unfold evenLos; split <;> simp [evenLo_length]

set_option maxRecDepth 10000 in
set_option maxHeartbeats 2000000 in
theorem implEvenAwards_yes (E : Int) (A : Option Addr) (c : Nat) (xs : List Int) (w : World) (lo hi : Nat) (h : Ints w lo hi A xs) (hh : hi ≤ w.heap.size) (hok : caseOkB E xs = true) :
    Calls Try.prog 22 #[.agg #[.int .i64 E, .slice A xs.length c]] w (RetInts w (evenAw E xs)) := by
  have hs := caseOk_small hok
  have hbd := caseOk_bd hok
  have HO := Lib.hid hok
  have HV := Lib.hid (even_is hok)
  clear hok
  have k0 := h.alloc hh (.cells #[.int .i64 E, .slice A xs.length c] 25)
  have a0 := new2 w (.int .i64 E) (.slice A xs.length c) 25
  have B0 := (Below.refl w.heap.size w).alloc (Nat.le_refl _) (.cells #[.int .i64 E, .slice A xs.length c] 25)
  go_enter Try.func22, Try.ntmps22
  go_wp2_with fail
  refine (implCaseOk_yes E A c xs _ _ _ k0 (by rw [hsz]; omega) (by omega) HO.out).mono ?_
  rintro e w1 ⟨rfl, hb1⟩
  rw [hsz] at hb1
  obtain ⟨a1, a1'⟩ := keep2 hb1 a0 (by omega)
  have k1 := k0.below hb1 (by omega)
  have z1 : w.heap.size + 1 ≤ w1.heap.size := by rw [← hsz w (.cells #[.int .i64 E, .slice A xs.length c] 25)]; exact hb1.size
  have B1 := B0.trans (hb1.mono (by omega))
  clear hb1 a0 k0 h B0
  have hw48 : IntKind.i64.wrap (48 * E) = 48 * E := IntWalk.i64_in _ (by omega)
  have hS0 : (fun w' : World => w'.cell? ⟨w.heap.size, 0, none⟩ = some (.int .i64 E) ∧ w'.cell? ⟨w.heap.size, 1, none⟩ = some (.slice A xs.length c) ∧ Ints w' lo hi A xs ∧ w1.heap.size ≤ w'.heap.size ∧ Below w.heap.size w w') w1.drew := ⟨a1, a1', k1, Nat.le_refl _, B1.drew⟩
  clear k1 B1 a1 a1'
  go_wp2_with fail
  go_region_held3 (fun w' => w'.cell? ⟨w.heap.size, 0, none⟩ = some (.int .i64 E) ∧ w'.cell? ⟨w.heap.size, 1, none⟩ = some (.slice A xs.length c) ∧ Ints w' lo hi A xs ∧ w1.heap.size ≤ w'.heap.size ∧ Below w.heap.size w w') (first | assumption | exact hS0 | exact HS9 | go_keep)
    (first
      | (go_at_call 37
         obtain ⟨y0, y1, kc, zz, BB⟩ := (by assumption : (fun w' : World => w'.cell? ⟨w.heap.size, 0, none⟩ = some (.int .i64 E) ∧ w'.cell? ⟨w.heap.size, 1, none⟩ = some (.slice A xs.length c) ∧ Ints w' lo hi A xs ∧ w1.heap.size ≤ w'.heap.size ∧ Below w.heap.size w w') _)
         refine (inParts_any A c xs _ lo hi kc (by omega) hs).mono ?_
         rintro e w2 ⟨A2, c2, rfl, ho2, hb2⟩
         have q2 := ho2.ints
         have HS9 : (fun w' : World => w'.cell? ⟨w.heap.size, 0, none⟩ = some (.int .i64 E) ∧ w'.cell? ⟨w.heap.size, 1, none⟩ = some (.slice A xs.length c) ∧ Ints w' lo hi A xs ∧ w1.heap.size ≤ w'.heap.size ∧ Below w.heap.size w w') w2 := ⟨(keep2 hb2 ⟨y0, y1⟩ (by omega)).1, (keep2 hb2 ⟨y0, y1⟩ (by omega)).2, kc.below hb2 (by omega), Nat.le_trans zz hb2.size, BB.trans (hb2.mono (by omega))⟩)
      | (go_at_call 36
         obtain ⟨y0, y1, kc, zz, BB⟩ := (by assumption : (fun w' : World => w'.cell? ⟨w.heap.size, 0, none⟩ = some (.int .i64 E) ∧ w'.cell? ⟨w.heap.size, 1, none⟩ = some (.slice A xs.length c) ∧ Ints w' lo hi A xs ∧ w1.heap.size ≤ w'.heap.size ∧ Below w.heap.size w w') _)
         refine (implEvenRow_yes A2 c2 (inP xs) (48 * E) _ _ _ q2 (Nat.le_refl _) HV.out).mono ?_
         rintro e w3 ⟨A3, c3, rfl, ho3, hb3⟩
         have HS9 : (fun w' : World => w'.cell? ⟨w.heap.size, 0, none⟩ = some (.int .i64 E) ∧ w'.cell? ⟨w.heap.size, 1, none⟩ = some (.slice A xs.length c) ∧ Ints w' lo hi A xs ∧ w1.heap.size ≤ w'.heap.size ∧ Below w.heap.size w w') w3 := ⟨(keep2 hb3 ⟨y0, y1⟩ (by omega)).1, (keep2 hb3 ⟨y0, y1⟩ (by omega)).2, kc.below hb3 (by omega), Nat.le_trans zz hb3.size, BB.trans (hb3.mono (by omega))⟩
         have H := Lib.hid (And.intro (ho3.more (lo' := w.heap.size) (hi' := w3.heap.size) (by omega) (Nat.le_refl _)) HS9.2.2.2.2)))
  go_wp2
  go_ret
  exact ⟨A3, c3, rfl, H.out.1, H.out.2⟩

set_option maxRecDepth 10000 in
set_option maxHeartbeats 400000 in
theorem implEvenAwards_no (E : Int) (A : Option Addr) (c : Nat) (xs : List Int) (w : World) (lo hi : Nat) (h : Ints w lo hi A xs) (hh : hi ≤ w.heap.size) (hl : xs.length ≤ 1152921504606846976) (hok : caseOkB E xs = false) :
    Calls Try.prog 22 #[.agg #[.int .i64 E, .slice A xs.length c]] w (RetInts w []) := by
  have HO := Lib.hid hok
  clear hok
  have k0 := h.alloc hh (.cells #[.int .i64 E, .slice A xs.length c] 25)
  have B0 := (Below.refl w.heap.size w).alloc (Nat.le_refl _) (.cells #[.int .i64 E, .slice A xs.length c] 25)
  go_enter Try.func22, Try.ntmps22
  go_wp2_with fail
  refine (implCaseOk_no E A c xs _ _ _ k0 (by rw [hsz]; omega) hl HO.out).mono ?_
  rintro e w1 ⟨rfl, hb1⟩
  rw [hsz] at hb1
  have B1 := B0.trans (hb1.mono (by omega))
  clear hb1
  go_wp2
  go_ret
  exact ⟨none, 0, rfl, Own.nil, B1⟩

theorem implEvenAwards_any (E : Int) (A : Option Addr) (c : Nat) (xs : List Int) (w : World) (lo hi : Nat) (h : Ints w lo hi A xs) (hh : hi ≤ w.heap.size) (hl : xs.length ≤ 1152921504606846976) :
    Calls Try.prog 22 #[.agg #[.int .i64 E, .slice A xs.length c]] w (RetInts w (evenAws E xs)) := by
  by_cases hok : caseOkB E xs = true
  · have e := implEvenAwards_yes E A c xs w lo hi h hh hok
    simpa [evenAws, hok] using e
  · have hok' : caseOkB E xs = false := by simpa using hok
    have e := implEvenAwards_no E A c xs w lo hi h hh hl hok'
    simpa [evenAws, hok'] using e

set_option maxRecDepth 10000 in
set_option maxHeartbeats 2000000 in
theorem implEvenLosses_yes (E : Int) (A : Option Addr) (c : Nat) (xs : List Int) (w : World) (lo hi : Nat) (h : Ints w lo hi A xs) (hh : hi ≤ w.heap.size) (hok : caseOkB E xs = true) :
    Calls Try.prog 16 #[.agg #[.int .i64 E, .slice A xs.length c]] w (RetInts w (evenLo E xs)) := by
  have hbd := caseOk_bd hok
  have HO := Lib.hid hok
  have HP := Lib.hid (other_ok hok)
  have HW := Lib.hid ((awardsB_iff _ _ _).2 (evenAw_aw (other_ok hok)))
  have HLW : Hid ((evenAw (xs.sum - E) xs).length ≤ 1152921504606846976) := by show _ ≤ _; rw [evenAw_length]; omega
  clear hok
  have k0 := h.alloc hh (.cells #[.int .i64 E, .slice A xs.length c] 25)
  have B0 := (Below.refl w.heap.size w).alloc (Nat.le_refl _) (.cells #[.int .i64 E, .slice A xs.length c] 25)
  go_enter Try.func16, Try.ntmps16
  go_wp2_with fail
  refine (implOtherCase_yes E A c xs _ _ _ k0 (by rw [hsz]; omega) HO.out).mono ?_
  rintro e w1 ⟨A1, c1, rfl, ho1, hb1⟩
  rw [hsz] at hb1 ho1
  have z1 : w.heap.size + 1 ≤ w1.heap.size := by rw [← hsz w (.cells #[.int .i64 E, .slice A xs.length c] 25)]; exact hb1.size
  have k1 := ho1.ints.alloc (Nat.le_refl _) (.cells #[.int .i64 (xs.sum - E), .slice A1 xs.length c1] 25)
  have a1 := new2 w1 (.int .i64 (xs.sum - E)) (.slice A1 xs.length c1) 25
  have B1 := (B0.trans (hb1.mono (by omega))).alloc (by omega) (.cells #[.int .i64 (xs.sum - E), .slice A1 xs.length c1] 25)
  have hs1 := hsz w1 (.cells #[.int .i64 (xs.sum - E), .slice A1 xs.length c1] 25)
  clear hb1 ho1 k0 h B0
  go_wp2_with fail
  obtain ⟨W, hW⟩ : ∃ W, W = w1.alloc (.cells #[.int .i64 (xs.sum - E), .slice A1 xs.length c1] 25) := ⟨_, rfl⟩
  rw [← hW] at k1 a1 B1 hs1 ⊢
  clear hW
  obtain ⟨a1, a1'⟩ := a1
  have hS0 : (fun w' : World => w'.cell? ⟨w1.heap.size, 0, none⟩ = some (.int .i64 (xs.sum - E)) ∧ w'.cell? ⟨w1.heap.size, 1, none⟩ = some (.slice A1 xs.length c1) ∧ Ints w' (w.heap.size + 1) w1.heap.size A1 xs ∧ W.heap.size ≤ w'.heap.size ∧ Below w.heap.size w w') W.drew := ⟨a1, a1', k1, Nat.le_refl _, B1.drew⟩
  clear k1 B1 a1 a1'
  go_region_held3 (fun w' => w'.cell? ⟨w1.heap.size, 0, none⟩ = some (.int .i64 (xs.sum - E)) ∧ w'.cell? ⟨w1.heap.size, 1, none⟩ = some (.slice A1 xs.length c1) ∧ Ints w' (w.heap.size + 1) w1.heap.size A1 xs ∧ W.heap.size ≤ w'.heap.size ∧ Below w.heap.size w w') (first | assumption | exact hS0 | exact HS9 | go_keep)
    (first
      | (go_at_call 22
         obtain ⟨y0, y1, kc, zz, BB⟩ := (by assumption : (fun w' : World => w'.cell? ⟨w1.heap.size, 0, none⟩ = some (.int .i64 (xs.sum - E)) ∧ w'.cell? ⟨w1.heap.size, 1, none⟩ = some (.slice A1 xs.length c1) ∧ Ints w' (w.heap.size + 1) w1.heap.size A1 xs ∧ W.heap.size ≤ w'.heap.size ∧ Below w.heap.size w w') _)
         refine (implEvenAwards_yes (xs.sum - E) A1 c1 xs _ _ _ kc (by omega) HP.out).mono ?_
         rintro e w2 ⟨A2, c2, rfl, ho2, hb2⟩
         have q2 := ho2.ints
         have HS9 : (fun w' : World => w'.cell? ⟨w1.heap.size, 0, none⟩ = some (.int .i64 (xs.sum - E)) ∧ w'.cell? ⟨w1.heap.size, 1, none⟩ = some (.slice A1 xs.length c1) ∧ Ints w' (w.heap.size + 1) w1.heap.size A1 xs ∧ W.heap.size ≤ w'.heap.size ∧ Below w.heap.size w w') w2 := ⟨(keep2 hb2 ⟨y0, y1⟩ (by omega)).1, (keep2 hb2 ⟨y0, y1⟩ (by omega)).2, kc.below hb2 (by omega), Nat.le_trans zz hb2.size, BB.trans (hb2.mono (by omega))⟩)
      | (go_at_call 15
         obtain ⟨y0, y1, kc, zz, BB⟩ := (by assumption : (fun w' : World => w'.cell? ⟨w1.heap.size, 0, none⟩ = some (.int .i64 (xs.sum - E)) ∧ w'.cell? ⟨w1.heap.size, 1, none⟩ = some (.slice A1 xs.length c1) ∧ Ints w' (w.heap.size + 1) w1.heap.size A1 xs ∧ W.heap.size ≤ w'.heap.size ∧ Below w.heap.size w w') _)
         refine (implLossesOf_yes (xs.sum - E) A1 c1 xs A2 c2 (evenAw (xs.sum - E) xs) _ _ _ kc (by omega) (by omega) _ _ q2 (Nat.le_refl _) HLW.out HW.out).mono ?_
         rintro e w3 ⟨A3, c3, rfl, ho3, hb3⟩
         have HS9 : (fun w' : World => w'.cell? ⟨w1.heap.size, 0, none⟩ = some (.int .i64 (xs.sum - E)) ∧ w'.cell? ⟨w1.heap.size, 1, none⟩ = some (.slice A1 xs.length c1) ∧ Ints w' (w.heap.size + 1) w1.heap.size A1 xs ∧ W.heap.size ≤ w'.heap.size ∧ Below w.heap.size w w') w3 := ⟨(keep2 hb3 ⟨y0, y1⟩ (by omega)).1, (keep2 hb3 ⟨y0, y1⟩ (by omega)).2, kc.below hb3 (by omega), Nat.le_trans zz hb3.size, BB.trans (hb3.mono (by omega))⟩
         have H := Lib.hid (And.intro (ho3.more (lo' := w.heap.size) (hi' := w3.heap.size) (by omega) (Nat.le_refl _)) HS9.2.2.2.2)))
  go_wp2
  go_ret
  exact ⟨A3, c3, rfl, H.out.1, H.out.2⟩

set_option maxRecDepth 10000 in
set_option maxHeartbeats 400000 in
theorem implEvenLosses_no (E : Int) (A : Option Addr) (c : Nat) (xs : List Int) (w : World) (lo hi : Nat) (h : Ints w lo hi A xs) (hh : hi ≤ w.heap.size) (hl : xs.length ≤ 1152921504606846976) (hok : caseOkB E xs = false) :
    Calls Try.prog 16 #[.agg #[.int .i64 E, .slice A xs.length c]] w (RetInts w []) := by
  have HO := Lib.hid hok
  clear hok
  have k0 := h.alloc hh (.cells #[.int .i64 E, .slice A xs.length c] 25)
  have B0 := (Below.refl w.heap.size w).alloc (Nat.le_refl _) (.cells #[.int .i64 E, .slice A xs.length c] 25)
  go_enter Try.func16, Try.ntmps16
  go_wp2_with fail
  refine (implOtherCase_no E A c xs _ _ _ k0 (by rw [hsz]; omega) hl HO.out).mono ?_
  rintro e w1 ⟨A1, c1, rfl, _, hb1⟩
  rw [hsz] at hb1
  have z1 : w.heap.size + 1 ≤ w1.heap.size := by rw [← hsz w (.cells #[.int .i64 E, .slice A xs.length c] 25)]; exact hb1.size
  have B1 := (B0.trans (hb1.mono (by omega))).alloc (by omega) (.cells #[.int .i64 0, .slice A1 0 c1] 25)
  clear hb1
  go_wp2
  go_ret
  exact ⟨none, 0, rfl, Own.nil, B1⟩

theorem implEvenLosses_any (E : Int) (A : Option Addr) (c : Nat) (xs : List Int) (w : World) (lo hi : Nat) (h : Ints w lo hi A xs) (hh : hi ≤ w.heap.size) (hl : xs.length ≤ 1152921504606846976) :
    Calls Try.prog 16 #[.agg #[.int .i64 E, .slice A xs.length c]] w (RetInts w (evenLos E xs)) := by
  by_cases hok : caseOkB E xs = true
  · have e := implEvenLosses_yes E A c xs w lo hi h hh hok
    simpa [evenLos, hok] using e
  · have hok' : caseOkB E xs = false := by simpa using hok
    have e := implEvenLosses_no E A c xs w lo hi h hh hl hok'
    simpa [evenLos, hok'] using e

end Go.Proofs.Ytakmbpdapdnniaa
