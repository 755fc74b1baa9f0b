/-
  The law of cut claims returns true for every code, and writes nothing that was there. No condition.
-/
import Derived.Test.YtpoafafoncgenaaDrawE
import Derived.Test.YtpoafafoncgenaaLawLeaf
import Derived.Test.YtpoafafoncgenaaEvenLaw2
import Derived.Test.YtpoafafoncgenaaSpecFns
import Derived.Test.YtpoafafoncgenaaCutCase
import Derived.Deep.RegionHeld3
namespace Go.Proofs.Ytpoafafoncgenaa
open Go.RowKit

set_option maxRecDepth 10000 in
set_option maxHeartbeats 8000000 in
theorem fnEvenCut_walk (A0 : Option Addr) (c0 : Nat) (bs : List Int) (w : World) (h0 : Bytes w w.heap.size A0 bs) (hl : bs.length ≤ 1048576) (hc0 : bs.length ≤ c0) :
    Calls Try.prog 14 #[.slice A0 bs.length c0] w fun e w' => e = .returned (.bool true) ∧ Below w.heap.size w w' := by
  have hlm : bs.length ≤ 9223372036854775807 := by omega
  go_enter Try.func14, Try.ntmps14
  go_wp2_with fail
  refine (drawEvenAwards_any A0 c0 bs _ h0 hlm hc0).mono ?_
  rintro e w1 ⟨E, A1, c1, xs, hx5, rfl, ho1, hb1⟩
  have hz1 := hb1.size
  have B2 := (Below.refl w.heap.size w).trans (hb1.mono (by first | omega | (simp; omega) | simp))
  clear hb1
  have x3 := new2 w1 (.int .i64 E) (.slice A1 xs.length c1) 25
  have o4 := ho1.alloc (by omega) (.cells #[.int .i64 E, .slice A1 xs.length c1] 25)
  have B5 := B2.alloc (by omega) (.cells #[.int .i64 E, .slice A1 xs.length c1] 25)
  have hl5 : xs.length ≤ 1152921504606846976 := by omega
  obtain ⟨a6, a6'⟩ := x3
  by_cases hok : caseOkB E xs = true
  · have hok' := hok
    have HO := Lib.hid hok'
    have hbd := caseOk_bd hok'
    have hsm := caseOk_small hok'
    have HP := Lib.hid (other_ok hok')
    have HR := Lib.hid (rest_ok hok')
    have HC := Lib.hid (cut_ok hok')
    have HN := Lib.hid (evenLo_length E xs)
    have HX := Lib.hid (fun k hk => evenLo_rest hok' k hk)
    have hrb := Lib.hid (fun k hk => rights_at_bd hok' k hk)
    have hlb := Lib.hid (fun k hk => evenLo_at_bd hok' k hk)
    have HPN : Hid ((evenLo (E - (rightsRow E xs).sum) (cutRow (xs.sum - E) xs)).length = xs.length) := by show _ = _; rw [evenLo_length, cutRow_length]
    have HRN := Lib.hid (rightsRow_length E xs)
    have hb0 : (((evenLo E xs).length : Int) == 0) = false := beq_eq_false_iff_ne.2 (by rw [evenLo_length]; omega)
    have hn5 : (evenLo E xs).length ≤ 5 := by rw [evenLo_length]; omega
    have hbq1 : (((evenLo (E - (rightsRow E xs).sum) (cutRow (xs.sum - E) xs)).length : Int) != ((evenLo E xs).length : Int)) = false := by rw [HPN.out, HN.out]; simp
    have hbq2 : (((rightsRow E xs).length : Int) != ((evenLo E xs).length : Int)) = false := by rw [HRN.out, HN.out]; simp
    clear hok hok'
    go_wp2_with fail
    refine (implEvenLosses_yes E A1 c1 xs _ _ _ o4.ints (by first | omega | (simp; omega) | simp) HO.out).mono ?_
    rintro e w2 ⟨A2, c2, rfl, ho2, hb2⟩
    have hp2 : Own w2 (w1.heap.size + 1) w2.heap.size A2 (evenLo E xs) := ho2.more (by simp) (Nat.le_refl _)
    obtain ⟨a7, a7'⟩ := keep2 hb2 ⟨a6, a6'⟩ (by first | omega | (simp; omega) | simp)
    have o8 := o4.below hb2 (by first | omega | (simp; omega) | simp)
    have hz9 := hb2.size
    simp at hz9
    have B10 := B5.trans (hb2.mono (by first | omega | (simp; omega) | simp))
    clear hb2
    have z11 : w1.heap.size < w2.heap.size := by omega
    go_wp2_with fail
    refine (implCutCase_yes E A1 c1 xs _ _ _ o8.ints (by first | omega | (simp; omega) | simp) HO.out).mono ?_
    rintro e w3 ⟨A3, c3, rfl, ho3, hb3⟩
    obtain ⟨a12, a12'⟩ := keep2 hb3 ⟨a7, a7'⟩ (by first | omega | (simp; omega) | simp)
    have o13 := o8.below hb3 (by first | omega | (simp; omega) | simp)
    have o14 := hp2.below hb3 (by first | omega | (simp; omega) | simp)
    have hz15 := hb3.size
    have B16 := B10.trans (hb3.mono (by first | omega | (simp; omega) | simp))
    clear hb3
    have z17 : w1.heap.size < w3.heap.size := by omega
    have x18 := new2 w3 (.int .i64 (E)) (.slice A3 (cutRow E xs).length c3) 25
    have q19 := keep2 ((Below.refl w3.heap.size w3).alloc (Nat.le_refl _) (.cells #[.int .i64 (E), .slice A3 (cutRow E xs).length c3] 25)) ⟨a12, a12'⟩ (by omega)
    have o20 := o13.alloc (by omega) (.cells #[.int .i64 (E), .slice A3 (cutRow E xs).length c3] 25)
    have o21 := o14.alloc (by omega) (.cells #[.int .i64 (E), .slice A3 (cutRow E xs).length c3] 25)
    have o22 := ho3.alloc (by omega) (.cells #[.int .i64 (E), .slice A3 (cutRow E xs).length c3] 25)
    have B23 := B16.alloc (by omega) (.cells #[.int .i64 (E), .slice A3 (cutRow E xs).length c3] 25)
    obtain ⟨a24, a24'⟩ := q19
    obtain ⟨a25, a25'⟩ := x18
    go_wp2_with fail
    refine (implRestCut_yes E A1 c1 xs _ _ _ o20.ints (by first | omega | (simp; omega) | simp) HO.out).mono ?_
    rintro e w4 ⟨A4, c4, rfl, ho4, hb4⟩
    have hp4 : Own w4 (w3.heap.size + 1) w4.heap.size A4 (cutRow (xs.sum - E) xs) := ho4.more (by simp) (Nat.le_refl _)
    obtain ⟨a26, a26'⟩ := keep2 hb4 ⟨a24, a24'⟩ (by first | omega | (simp; omega) | simp)
    obtain ⟨a27, a27'⟩ := keep2 hb4 ⟨a25, a25'⟩ (by first | omega | (simp; omega) | simp)
    have o28 := o20.below hb4 (by first | omega | (simp; omega) | simp)
    have o29 := o21.below hb4 (by first | omega | (simp; omega) | simp)
    have o30 := o22.below hb4 (by first | omega | (simp; omega) | simp)
    have hz31 := hb4.size
    simp at hz31
    have B32 := B23.trans (hb4.mono (by first | omega | (simp; omega) | simp))
    clear hb4
    have z33 : w1.heap.size < w4.heap.size := by omega
    have z34 : w3.heap.size < w4.heap.size := by omega
    have x35 := new2 w4 (.int .i64 (E - (rightsRow E xs).sum)) (.slice A4 (cutRow (xs.sum - E) xs).length c4) 25
    have q36 := keep2 ((Below.refl w4.heap.size w4).alloc (Nat.le_refl _) (.cells #[.int .i64 (E - (rightsRow E xs).sum), .slice A4 (cutRow (xs.sum - E) xs).length c4] 25)) ⟨a26, a26'⟩ (by omega)
    have q37 := keep2 ((Below.refl w4.heap.size w4).alloc (Nat.le_refl _) (.cells #[.int .i64 (E - (rightsRow E xs).sum), .slice A4 (cutRow (xs.sum - E) xs).length c4] 25)) ⟨a27, a27'⟩ (by omega)
    have o38 := o28.alloc (by omega) (.cells #[.int .i64 (E - (rightsRow E xs).sum), .slice A4 (cutRow (xs.sum - E) xs).length c4] 25)
    have o39 := o29.alloc (by omega) (.cells #[.int .i64 (E - (rightsRow E xs).sum), .slice A4 (cutRow (xs.sum - E) xs).length c4] 25)
    have o40 := o30.alloc (by omega) (.cells #[.int .i64 (E - (rightsRow E xs).sum), .slice A4 (cutRow (xs.sum - E) xs).length c4] 25)
    have o41 := hp4.alloc (by omega) (.cells #[.int .i64 (E - (rightsRow E xs).sum), .slice A4 (cutRow (xs.sum - E) xs).length c4] 25)
    have B42 := B32.alloc (by omega) (.cells #[.int .i64 (E - (rightsRow E xs).sum), .slice A4 (cutRow (xs.sum - E) xs).length c4] 25)
    obtain ⟨a43, a43'⟩ := q36
    obtain ⟨a44, a44'⟩ := q37
    obtain ⟨a45, a45'⟩ := x35
    go_wp2_with fail
    refine (implRightsOf_yes E A1 c1 xs _ _ _ o38.ints (by first | omega | (simp; omega) | simp) HO.out).mono ?_
    rintro e w5 ⟨A5, c5, rfl, ho5, hb5⟩
    have hp5 : Own w5 (w4.heap.size + 1) w5.heap.size A5 (rightsRow E xs) := ho5.more (by simp) (Nat.le_refl _)
    obtain ⟨a46, a46'⟩ := keep2 hb5 ⟨a43, a43'⟩ (by first | omega | (simp; omega) | simp)
    obtain ⟨a47, a47'⟩ := keep2 hb5 ⟨a44, a44'⟩ (by first | omega | (simp; omega) | simp)
    obtain ⟨a48, a48'⟩ := keep2 hb5 ⟨a45, a45'⟩ (by first | omega | (simp; omega) | simp)
    have o49 := o38.below hb5 (by first | omega | (simp; omega) | simp)
    have o50 := o39.below hb5 (by first | omega | (simp; omega) | simp)
    have o51 := o40.below hb5 (by first | omega | (simp; omega) | simp)
    have o52 := o41.below hb5 (by first | omega | (simp; omega) | simp)
    have hz53 := hb5.size
    simp at hz53
    have B54 := B42.trans (hb5.mono (by first | omega | (simp; omega) | simp))
    clear hb5
    have z55 : w1.heap.size < w5.heap.size := by omega
    have z56 : w3.heap.size < w5.heap.size := by omega
    have z57 : w4.heap.size < w5.heap.size := by omega
    go_wp2_with fail
    refine (implEvenLosses_yes (E - (rightsRow E xs).sum) A4 c4 (cutRow (xs.sum - E) xs) _ _ _ o52.ints (by first | omega | (simp; omega) | simp) HR.out).mono ?_
    rintro e w6 ⟨A6, c6, rfl, ho6, hb6⟩
    obtain ⟨a58, a58'⟩ := keep2 hb6 ⟨a46, a46'⟩ (by first | omega | (simp; omega) | simp)
    obtain ⟨a59, a59'⟩ := keep2 hb6 ⟨a47, a47'⟩ (by first | omega | (simp; omega) | simp)
    obtain ⟨a60, a60'⟩ := keep2 hb6 ⟨a48, a48'⟩ (by first | omega | (simp; omega) | simp)
    have o61 := o49.below hb6 (by first | omega | (simp; omega) | simp)
    have o62 := o50.below hb6 (by first | omega | (simp; omega) | simp)
    have o63 := o51.below hb6 (by first | omega | (simp; omega) | simp)
    have o64 := o52.below hb6 (by first | omega | (simp; omega) | simp)
    have o65 := hp5.below hb6 (by first | omega | (simp; omega) | simp)
    have hz66 := hb6.size
    have B67 := B54.trans (hb6.mono (by first | omega | (simp; omega) | simp))
    clear hb6
    have z68 : w1.heap.size < w6.heap.size := by omega
    have z69 : w3.heap.size < w6.heap.size := by omega
    have z70 : w4.heap.size < w6.heap.size := by omega
    go_wp2
    go_loopw [11] (fun i wr => ∃ k : Nat, k ≤ (evenLo E xs).length ∧ i = .int .i64 k ∧ Below w6.heap.size w6 wr) (fun i _ => (evenLo E xs).length - (intOf i).toNat)
    case atStart => exact ⟨0, Nat.zero_le _, rfl, Below.refl _ _⟩
    case round =>
      obtain ⟨k, hk, rfl, hbl⟩ := hrel
      obtain ⟨w7, rfl⟩ : ∃ x, x = wr := ⟨_, rfl⟩
      have hbl0 := hbl
      obtain ⟨a71, a71'⟩ := keep2 hbl ⟨a58, a58'⟩ (by first | omega | (simp; omega) | simp)
      obtain ⟨a72, a72'⟩ := keep2 hbl ⟨a59, a59'⟩ (by first | omega | (simp; omega) | simp)
      obtain ⟨a73, a73'⟩ := keep2 hbl ⟨a60, a60'⟩ (by first | omega | (simp; omega) | simp)
      have o74 := o61.below hbl (by first | omega | (simp; omega) | simp)
      have o75 := o62.below hbl (by first | omega | (simp; omega) | simp)
      have o76 := o63.below hbl (by first | omega | (simp; omega) | simp)
      have o77 := o64.below hbl (by first | omega | (simp; omega) | simp)
      have o78 := o65.below hbl (by first | omega | (simp; omega) | simp)
      have o79 := ho6.below hbl (by first | omega | (simp; omega) | simp)
      have hz80 := hbl.size
      have B81 := B67.trans (hbl.mono (by first | omega | (simp; omega) | simp))
      clear hbl
      have z82 : w1.heap.size < w7.heap.size := by omega
      have z83 : w3.heap.size < w7.heap.size := by omega
      have z84 : w4.heap.size < w7.heap.size := by omega
      by_cases hlt : k < (evenLo E xs).length
      · obtain ⟨b0_, o0_, rfl, _, hbh0, hc0⟩ := o75.ints.at_ (k := k) hlt
        obtain ⟨b1_, o1_, rfl, _, hbh1, hc1⟩ := o79.ints.at_ (k := k) (by rw [HPN.out, ← HN.out]; exact hlt)
        obtain ⟨b2_, o2_, rfl, _, hbh2, hc2⟩ := o78.ints.at_ (k := k) (by rw [HRN.out, ← HN.out]; exact hlt)
        have hkx : k < xs.length := by rw [← HN.out]; exact hlt
        have hx := HX.out k hkx
        have hv := hrb.out k hkx
        have hw := hlb.out k hkx
        generalize (evenLo E xs)[k]'hlt = vo at hc0 hx hw
        generalize (evenLo (E - (rightsRow E xs).sum) (cutRow (xs.sum - E) xs))[k]'(by rw [HPN.out]; exact hkx) = vp at hc1 hx
        generalize (rightsRow E xs)[k]'(by rw [HRN.out]; exact hkx) = vr at hc2 hx hv
        have hw1 : IntKind.i64.wrap (48 * vr) = 48 * vr := IntWalk.i64_in _ (by omega)
        have hw2 : IntKind.i64.wrap (vp + 48 * vr) = vp + 48 * vr := IntWalk.i64_in _ (by omega)
        have hd1 : (vp + 48 * vr != vo) = false := by rw [hx]; simp
        have hk0 : (0 : Int) ≤ (k : Int) := by omega
        have hk1 : (k : Int) < ((evenLo E xs).length : Int) := by omega
        have hk2 : (k : Int) < ((evenLo (E - (rightsRow E xs).sum) (cutRow (xs.sum - E) xs)).length : Int) := by rw [HPN.out]; omega
        have hk3 : (k : Int) < ((rightsRow E xs).length : Int) := by rw [HRN.out]; omega
        have H := Lib.hid hbl0
        go_wp2
        go_quiet (fail)
        go_wp2
        go_roundw
        case rel => exact ⟨k + 1, by omega, by go_num, below_drewN H.out _⟩
        case measure => simp [intOf]; omega
      · have hkN : k = (evenLo E xs).length := by omega
        subst hkN
        clear hbl0
        go_wp2_with fail
        have hWW : w.heap.size ≤ w7.heap.size := by omega
        have g_c : w1.heap.size < w7.heap.size := by omega
        have g_cut : w3.heap.size < w7.heap.size := by omega
        have g_kc : w1.heap.size ≤ w7.heap.size := by omega
        have g_kk : w3.heap.size ≤ w7.heap.size := by omega
        have hS0 : (fun w' : World => w'.cell? ⟨w1.heap.size, 0, none⟩ = some (.int .i64 E) ∧ w'.cell? ⟨w1.heap.size, 1, none⟩ = some (.slice A1 xs.length c1) ∧ w'.cell? ⟨w3.heap.size, 0, none⟩ = some (.int .i64 (E)) ∧ w'.cell? ⟨w3.heap.size, 1, none⟩ = some (.slice A3 (cutRow E xs).length c3) ∧ Ints w' (w.heap.size) (w1.heap.size) (A1) (xs) ∧ Ints w' (w2.heap.size) (w3.heap.size) (A3) (cutRow E xs) ∧ w7.heap.size ≤ w'.heap.size ∧ Below w.heap.size w w') w7.drew := ⟨a71, a71', a72, a72', o74.ints, o76.ints, Nat.le_refl _, B81.drew⟩
        first
          | (go_region_held3 (fun w' => w'.cell? ⟨w1.heap.size, 0, none⟩ = some (.int .i64 E) ∧ w'.cell? ⟨w1.heap.size, 1, none⟩ = some (.slice A1 xs.length c1) ∧ w'.cell? ⟨w3.heap.size, 0, none⟩ = some (.int .i64 (E)) ∧ w'.cell? ⟨w3.heap.size, 1, none⟩ = some (.slice A3 (cutRow E xs).length c3) ∧ Ints w' (w.heap.size) (w1.heap.size) (A1) (xs) ∧ Ints w' (w2.heap.size) (w3.heap.size) (A3) (cutRow E xs) ∧ w7.heap.size ≤ w'.heap.size ∧ Below w.heap.size w w') (first | assumption | exact hS0 | exact HS9 | go_keep)
            (first
              | (go_at_call 19
                 obtain ⟨y0, y1, y2, y3, kc, kk, zz, BB⟩ := (by assumption : (fun w' : World => w'.cell? ⟨w1.heap.size, 0, none⟩ = some (.int .i64 E) ∧ w'.cell? ⟨w1.heap.size, 1, none⟩ = some (.slice A1 xs.length c1) ∧ w'.cell? ⟨w3.heap.size, 0, none⟩ = some (.int .i64 (E)) ∧ w'.cell? ⟨w3.heap.size, 1, none⟩ = some (.slice A3 (cutRow E xs).length c3) ∧ Ints w' (w.heap.size) (w1.heap.size) (A1) (xs) ∧ Ints w' (w2.heap.size) (w3.heap.size) (A3) (cutRow E xs) ∧ w7.heap.size ≤ w'.heap.size ∧ Below w.heap.size w w') _)
                 (with_reducible refine (alive_any _).mono ?_)
                 rintro e w9 ⟨rfl, hb9⟩
                 have HS9 : (fun w' => w'.cell? ⟨w1.heap.size, 0, none⟩ = some (.int .i64 E) ∧ w'.cell? ⟨w1.heap.size, 1, none⟩ = some (.slice A1 xs.length c1) ∧ w'.cell? ⟨w3.heap.size, 0, none⟩ = some (.int .i64 (E)) ∧ w'.cell? ⟨w3.heap.size, 1, none⟩ = some (.slice A3 (cutRow E xs).length c3) ∧ Ints w' (w.heap.size) (w1.heap.size) (A1) (xs) ∧ Ints w' (w2.heap.size) (w3.heap.size) (A3) (cutRow E xs) ∧ w7.heap.size ≤ w'.heap.size ∧ Below w.heap.size w w') w9 := ⟨(keep2 hb9 ⟨y0, y1⟩ (by omega)).1, (keep2 hb9 ⟨y0, y1⟩ (by omega)).2, (keep2 hb9 ⟨y2, y3⟩ (by omega)).1, (keep2 hb9 ⟨y2, y3⟩ (by omega)).2, kc.below hb9 (by omega), kk.below hb9 (by omega), Nat.le_trans zz hb9.size, BB.trans (hb9.mono (by omega))⟩)
              | (go_at_call 36
                 obtain ⟨y0, y1, y2, y3, kc, kk, zz, BB⟩ := (by assumption : (fun w' : World => w'.cell? ⟨w1.heap.size, 0, none⟩ = some (.int .i64 E) ∧ w'.cell? ⟨w1.heap.size, 1, none⟩ = some (.slice A1 xs.length c1) ∧ w'.cell? ⟨w3.heap.size, 0, none⟩ = some (.int .i64 (E)) ∧ w'.cell? ⟨w3.heap.size, 1, none⟩ = some (.slice A3 (cutRow E xs).length c3) ∧ Ints w' (w.heap.size) (w1.heap.size) (A1) (xs) ∧ Ints w' (w2.heap.size) (w3.heap.size) (A3) (cutRow E xs) ∧ w7.heap.size ≤ w'.heap.size ∧ Below w.heap.size w w') _)
                 (with_reducible refine (implEvenAwards_cut E A3 c3 xs _ _ _ kk (by omega) HO.out).mono ?_)
                 rintro e w9 ⟨Ab, cb, rfl, hob, hb9⟩
                 try have hoc := hoc.below hb9 (by first | exact Nat.le_refl _ | omega)
                 have HS9 : (fun w' => w'.cell? ⟨w1.heap.size, 0, none⟩ = some (.int .i64 E) ∧ w'.cell? ⟨w1.heap.size, 1, none⟩ = some (.slice A1 xs.length c1) ∧ w'.cell? ⟨w3.heap.size, 0, none⟩ = some (.int .i64 (E)) ∧ w'.cell? ⟨w3.heap.size, 1, none⟩ = some (.slice A3 (cutRow E xs).length c3) ∧ Ints w' (w.heap.size) (w1.heap.size) (A1) (xs) ∧ Ints w' (w2.heap.size) (w3.heap.size) (A3) (cutRow E xs) ∧ w7.heap.size ≤ w'.heap.size ∧ Below w.heap.size w w') w9 := ⟨(keep2 hb9 ⟨y0, y1⟩ (by omega)).1, (keep2 hb9 ⟨y0, y1⟩ (by omega)).2, (keep2 hb9 ⟨y2, y3⟩ (by omega)).1, (keep2 hb9 ⟨y2, y3⟩ (by omega)).2, kc.below hb9 (by omega), kk.below hb9 (by omega), Nat.le_trans zz hb9.size, BB.trans (hb9.mono (by omega))⟩)
              | (go_at_call 36
                 obtain ⟨y0, y1, y2, y3, kc, kk, zz, BB⟩ := (by assumption : (fun w' : World => w'.cell? ⟨w1.heap.size, 0, none⟩ = some (.int .i64 E) ∧ w'.cell? ⟨w1.heap.size, 1, none⟩ = some (.slice A1 xs.length c1) ∧ w'.cell? ⟨w3.heap.size, 0, none⟩ = some (.int .i64 (E)) ∧ w'.cell? ⟨w3.heap.size, 1, none⟩ = some (.slice A3 (cutRow E xs).length c3) ∧ Ints w' (w.heap.size) (w1.heap.size) (A1) (xs) ∧ Ints w' (w2.heap.size) (w3.heap.size) (A3) (cutRow E xs) ∧ w7.heap.size ≤ w'.heap.size ∧ Below w.heap.size w w') _)
                 (with_reducible refine (implEvenAwards_yes E A1 c1 xs _ _ _ kc (by omega) HO.out).mono ?_)
                 rintro e w9 ⟨Ac, cc, rfl, hoc, hb9⟩
                 try have hob := hob.below hb9 (by first | exact Nat.le_refl _ | omega)
                 have HS9 : (fun w' => w'.cell? ⟨w1.heap.size, 0, none⟩ = some (.int .i64 E) ∧ w'.cell? ⟨w1.heap.size, 1, none⟩ = some (.slice A1 xs.length c1) ∧ w'.cell? ⟨w3.heap.size, 0, none⟩ = some (.int .i64 (E)) ∧ w'.cell? ⟨w3.heap.size, 1, none⟩ = some (.slice A3 (cutRow E xs).length c3) ∧ Ints w' (w.heap.size) (w1.heap.size) (A1) (xs) ∧ Ints w' (w2.heap.size) (w3.heap.size) (A3) (cutRow E xs) ∧ w7.heap.size ≤ w'.heap.size ∧ Below w.heap.size w w') w9 := ⟨(keep2 hb9 ⟨y0, y1⟩ (by omega)).1, (keep2 hb9 ⟨y0, y1⟩ (by omega)).2, (keep2 hb9 ⟨y2, y3⟩ (by omega)).1, (keep2 hb9 ⟨y2, y3⟩ (by omega)).2, kc.below hb9 (by omega), kk.below hb9 (by omega), Nat.le_trans zz hb9.size, BB.trans (hb9.mono (by omega))⟩)
              | (go_at_call 30
                 obtain ⟨y0, y1, y2, y3, kc, kk, zz, BB⟩ := (by assumption : (fun w' : World => w'.cell? ⟨w1.heap.size, 0, none⟩ = some (.int .i64 E) ∧ w'.cell? ⟨w1.heap.size, 1, none⟩ = some (.slice A1 xs.length c1) ∧ w'.cell? ⟨w3.heap.size, 0, none⟩ = some (.int .i64 (E)) ∧ w'.cell? ⟨w3.heap.size, 1, none⟩ = some (.slice A3 (cutRow E xs).length c3) ∧ Ints w' (w.heap.size) (w1.heap.size) (A1) (xs) ∧ Ints w' (w2.heap.size) (w3.heap.size) (A3) (cutRow E xs) ∧ w7.heap.size ≤ w'.heap.size ∧ Below w.heap.size w w') _)
                 (with_reducible refine (sameInts_below Ab Ac cb cc (evenAw E xs) _ _ _ _ _ hob.ints hoc.ints (by rw [evenAw_length]; omega)).mono ?_)
                 rintro e w9 ⟨rfl, hb9⟩
                 have HS9 : (fun w' => w'.cell? ⟨w1.heap.size, 0, none⟩ = some (.int .i64 E) ∧ w'.cell? ⟨w1.heap.size, 1, none⟩ = some (.slice A1 xs.length c1) ∧ w'.cell? ⟨w3.heap.size, 0, none⟩ = some (.int .i64 (E)) ∧ w'.cell? ⟨w3.heap.size, 1, none⟩ = some (.slice A3 (cutRow E xs).length c3) ∧ Ints w' (w.heap.size) (w1.heap.size) (A1) (xs) ∧ Ints w' (w2.heap.size) (w3.heap.size) (A3) (cutRow E xs) ∧ w7.heap.size ≤ w'.heap.size ∧ Below w.heap.size w w') w9 := ⟨(keep2 hb9 ⟨y0, y1⟩ (by omega)).1, (keep2 hb9 ⟨y0, y1⟩ (by omega)).2, (keep2 hb9 ⟨y2, y3⟩ (by omega)).1, (keep2 hb9 ⟨y2, y3⟩ (by omega)).2, kc.below hb9 (by omega), kk.below hb9 (by omega), Nat.le_trans zz hb9.size, BB.trans (hb9.mono (by omega))⟩)))
          | fail
        go_wp2
        go_ret
        exact ⟨rfl, HS9.2.2.2.2.2.2.2⟩
  · have hok' : caseOkB E xs = false := by simpa using hok
    have HO := Lib.hid hok'
    clear hok hok'
    go_wp2_with fail
    refine (implEvenLosses_no E A1 c1 xs _ _ _ o4.ints (by first | omega | (simp; omega) | simp) hl5 HO.out).mono ?_
    rintro e w2 ⟨A2, c2, rfl, ho2, hb2⟩
    have hp2 : Own w2 (w1.heap.size + 1) w2.heap.size A2 (([] : List Int)) := ho2.more (by simp) (Nat.le_refl _)
    obtain ⟨a7, a7'⟩ := keep2 hb2 ⟨a6, a6'⟩ (by first | omega | (simp; omega) | simp)
    have o8 := o4.below hb2 (by first | omega | (simp; omega) | simp)
    have hz9 := hb2.size
    simp at hz9
    have B10 := B5.trans (hb2.mono (by first | omega | (simp; omega) | simp))
    clear hb2
    have z11 : w1.heap.size < w2.heap.size := by omega
    go_wp2_with fail
    refine (specEvenLosses_no E A1 c1 xs _ _ _ o8.ints (by first | omega | (simp; omega) | simp) hl5 HO.out).mono ?_
    rintro e w3 ⟨A3, c3, rfl, ho3, hb3⟩
    obtain ⟨a12, a12'⟩ := keep2 hb3 ⟨a7, a7'⟩ (by first | omega | (simp; omega) | simp)
    have o13 := o8.below hb3 (by first | omega | (simp; omega) | simp)
    have o14 := hp2.below hb3 (by first | omega | (simp; omega) | simp)
    have hz15 := hb3.size
    have B16 := B10.trans (hb3.mono (by first | omega | (simp; omega) | simp))
    clear hb3
    have z17 : w1.heap.size < w3.heap.size := by omega
    go_wp2_with fail
    refine (alive_any _).mono ?_
    rintro e w4 ⟨rfl, hb4⟩
    obtain ⟨a18, a18'⟩ := keep2 hb4 ⟨a12, a12'⟩ (by first | omega | (simp; omega) | simp)
    have o19 := o13.below hb4 (by first | omega | (simp; omega) | simp)
    have o20 := o14.below hb4 (by first | omega | (simp; omega) | simp)
    have o21 := ho3.below hb4 (by first | omega | (simp; omega) | simp)
    have hz22 := hb4.size
    have B23 := B16.trans (hb4.mono (by first | omega | (simp; omega) | simp))
    clear hb4
    have z24 : w1.heap.size < w4.heap.size := by omega
    go_wp2
    go_ret
    exact ⟨rfl, B23⟩

set_option maxRecDepth 10000 in
set_option maxHeartbeats 400000 in
theorem fnEvenCut_big (A0 : Option Addr) (c0 : Nat) (bs : List Int) (w : World) (hl : ¬ bs.length ≤ 1048576) (hm : bs.length ≤ 9223372036854775807) :
    Calls Try.prog 14 #[.slice A0 bs.length c0] w fun e w' => e = .returned (.bool true) ∧ Below w.heap.size w w' := by
  go_enter Try.func14, Try.ntmps14
  go_wp2
  go_ret
  exact ⟨rfl, Below.refl _ _⟩

theorem fnEvenCut_all (A0 : Option Addr) (c0 : Nat) (bs : List Int) (w : World) (h0 : Bytes w w.heap.size A0 bs) (hm : bs.length ≤ 9223372036854775807) (hc0 : bs.length ≤ c0) :
    Calls Try.prog 14 #[.slice A0 bs.length c0] w fun e w' => e = .returned (.bool true) ∧ Below w.heap.size w w' := by
  by_cases hl : bs.length ≤ 1048576
  · exact fnEvenCut_walk A0 c0 bs w h0 hl hc0
  · exact fnEvenCut_big A0 c0 bs w hl hm

end Go.Proofs.Ytpoafafoncgenaa
