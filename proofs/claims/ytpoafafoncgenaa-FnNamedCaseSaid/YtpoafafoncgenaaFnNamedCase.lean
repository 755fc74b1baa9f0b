/-
  The law of NamedCase returns true for every code, and writes nothing that was there. No condition.
-/
import Derived.Test.YtpoafafoncgenaaDrawN
import Derived.Test.YtpoafafoncgenaaNamedLaw
import Derived.Test.YtpoafafoncgenaaRightsOf
import Derived.Deep.RegionHeld3
namespace Go.Proofs.Ytpoafafoncgenaa
open Go.RowKit

set_option maxRecDepth 10000 in
set_option maxHeartbeats 2000000 in
theorem fnNamedCase_walk (A0 : Option Addr) (c0 : Nat) (bs : List Int) (w : World) (h0 : Bytes w w.heap.size A0 bs) (hl : bs.length ≤ 1048576) (hc0 : bs.length ≤ c0) :
    Calls Try.prog 3 #[.slice A0 bs.length c0] w fun e w' => e = .returned (.bool true) ∧ Below w.heap.size w w' := by
  have hlm : bs.length ≤ 9223372036854775807 := by omega
  go_enter Try.func3, Try.ntmps3
  go_wp2_with fail
  refine (drawNamedCase_any A0 c0 bs _ h0 hlm hc0).mono ?_
  rintro e w1 ⟨E, A1, c1, D1, d1, xs, ys, hx5, hy6, rfl, ho1, hq1, hb1⟩
  have hz1 := hb1.size
  have B2 := (Below.refl w.heap.size w).trans (hb1.mono (by first | omega | (simp; omega) | simp))
  clear hb1
  have x3 := new2 w1 (.int .i64 E) (.slice A1 xs.length c1) 25
  have o4 := ho1.alloc (by omega) (.cells #[.int .i64 E, .slice A1 xs.length c1] 25)
  have o5 := hq1.alloc (by omega) (.cells #[.int .i64 E, .slice A1 xs.length c1] 25)
  have B6 := B2.alloc (by omega) (.cells #[.int .i64 E, .slice A1 xs.length c1] 25)
  have hl5 : xs.length ≤ 1152921504606846976 := by omega
  have hl6 : ys.length ≤ 1152921504606846976 := by omega
  obtain ⟨a7, a7'⟩ := x3
  by_cases hnb : namedB E xs ys = true
  · have hnb' : namedB E xs ys = true := by simpa using hnb
    have HK := Lib.hid (namedB_parts hnb').1
    have HP := Lib.hid (named_ok (namedB_parts hnb').1 (namedB_parts hnb').2).1
    have HS := Lib.hid (named_ok (namedB_parts hnb').1 (namedB_parts hnb').2).2
    have HL5 : Hid ((placed xs ys xs.length xs.length).length ≤ 1152921504606846976) := by show _ ≤ _; rw [placed_length]; omega
    have hbq : (((rightsRow E (placed xs ys xs.length xs.length)).length : Int) == ((rightsRow E xs).length : Int)) = true := by rw [rightsRow_length, rightsRow_length, placed_length]; simp
    have HO := Lib.hid hnb'
    clear hnb hnb'
    go_wp2_with fail
    refine (implNamed_y E A1 c1 xs D1 d1 ys _ _ _ o4.ints (by first | omega | (simp; omega) | simp) hl5 _ _ o5.ints (by first | omega | (simp; omega) | simp) hl6 HO.out).mono ?_
    rintro e w2 ⟨A2, c2, rfl, ho2, hb2⟩
    have hp2 : Own w2 (w1.heap.size + 1) w2.heap.size A2 (placed xs ys xs.length xs.length) := ho2.more (by simp) (Nat.le_refl _)
    obtain ⟨a8, a8'⟩ := keep2 hb2 ⟨a7, a7'⟩ (by first | omega | (simp; omega) | simp)
    have o9 := o4.below hb2 (by first | omega | (simp; omega) | simp)
    have o10 := o5.below hb2 (by first | omega | (simp; omega) | simp)
    have hz11 := hb2.size
    simp at hz11
    have B12 := B6.trans (hb2.mono (by first | omega | (simp; omega) | simp))
    clear hb2
    have z13 : w1.heap.size < w2.heap.size := by omega
    have x14 := new2 w2 (.int .i64 (E)) (.slice A2 (placed xs ys xs.length xs.length).length c2) 25
    have q15 := keep2 ((Below.refl w2.heap.size w2).alloc (Nat.le_refl _) (.cells #[.int .i64 (E), .slice A2 (placed xs ys xs.length xs.length).length c2] 25)) ⟨a8, a8'⟩ (by omega)
    have o16 := o9.alloc (by omega) (.cells #[.int .i64 (E), .slice A2 (placed xs ys xs.length xs.length).length c2] 25)
    have o17 := o10.alloc (by omega) (.cells #[.int .i64 (E), .slice A2 (placed xs ys xs.length xs.length).length c2] 25)
    have o18 := hp2.alloc (by omega) (.cells #[.int .i64 (E), .slice A2 (placed xs ys xs.length xs.length).length c2] 25)
    have B19 := B12.alloc (by omega) (.cells #[.int .i64 (E), .slice A2 (placed xs ys xs.length xs.length).length c2] 25)
    obtain ⟨a20, a20'⟩ := q15
    obtain ⟨a21, a21'⟩ := x14
    go_wp2_with fail
    refine (specNamed_y E A1 c1 xs D1 d1 ys _ _ _ o16.ints (by first | omega | (simp; omega) | simp) hl5 _ _ o17.ints (by first | omega | (simp; omega) | simp) hl6 HO.out).mono ?_
    rintro e w3 ⟨A3, c3, rfl, ho3, hb3⟩
    have hp3 : Own w3 (w2.heap.size + 1) w3.heap.size A3 (placed xs ys xs.length xs.length) := ho3.more (by simp) (Nat.le_refl _)
    obtain ⟨a22, a22'⟩ := keep2 hb3 ⟨a20, a20'⟩ (by first | omega | (simp; omega) | simp)
    obtain ⟨a23, a23'⟩ := keep2 hb3 ⟨a21, a21'⟩ (by first | omega | (simp; omega) | simp)
    have o24 := o16.below hb3 (by first | omega | (simp; omega) | simp)
    have o25 := o17.below hb3 (by first | omega | (simp; omega) | simp)
    have o26 := o18.below hb3 (by first | omega | (simp; omega) | simp)
    have hz27 := hb3.size
    simp at hz27
    have B28 := B19.trans (hb3.mono (by first | omega | (simp; omega) | simp))
    clear hb3
    have z29 : w1.heap.size < w3.heap.size := by omega
    have z30 : w2.heap.size < w3.heap.size := by omega
    have x31 := new2 w3 (.int .i64 (E)) (.slice A3 (placed xs ys xs.length xs.length).length c3) 25
    have q32 := keep2 ((Below.refl w3.heap.size w3).alloc (Nat.le_refl _) (.cells #[.int .i64 (E), .slice A3 (placed xs ys xs.length xs.length).length c3] 25)) ⟨a22, a22'⟩ (by omega)
    have q33 := keep2 ((Below.refl w3.heap.size w3).alloc (Nat.le_refl _) (.cells #[.int .i64 (E), .slice A3 (placed xs ys xs.length xs.length).length c3] 25)) ⟨a23, a23'⟩ (by omega)
    have o34 := o24.alloc (by omega) (.cells #[.int .i64 (E), .slice A3 (placed xs ys xs.length xs.length).length c3] 25)
    have o35 := o25.alloc (by omega) (.cells #[.int .i64 (E), .slice A3 (placed xs ys xs.length xs.length).length c3] 25)
    have o36 := o26.alloc (by omega) (.cells #[.int .i64 (E), .slice A3 (placed xs ys xs.length xs.length).length c3] 25)
    have o37 := hp3.alloc (by omega) (.cells #[.int .i64 (E), .slice A3 (placed xs ys xs.length xs.length).length c3] 25)
    have B38 := B28.alloc (by omega) (.cells #[.int .i64 (E), .slice A3 (placed xs ys xs.length xs.length).length c3] 25)
    obtain ⟨a39, a39'⟩ := q32
    obtain ⟨a40, a40'⟩ := q33
    obtain ⟨a41, a41'⟩ := x31
    go_wp2_with fail
    refine (sameCase_yes (E) A2 A3 c2 c3 (placed xs ys xs.length xs.length) _ _ _ _ _ o36.ints o37.ints (by first | omega | (simp; omega) | simp) (by first | omega | (simp; omega) | simp) (by first | exact HL5.out | simp)).mono ?_
    rintro e w4 ⟨rfl, hb4⟩
    obtain ⟨a42, a42'⟩ := keep2 hb4 ⟨a39, a39'⟩ (by first | omega | (simp; omega) | simp)
    obtain ⟨a43, a43'⟩ := keep2 hb4 ⟨a40, a40'⟩ (by first | omega | (simp; omega) | simp)
    obtain ⟨a44, a44'⟩ := keep2 hb4 ⟨a41, a41'⟩ (by first | omega | (simp; omega) | simp)
    have o45 := o34.below hb4 (by first | omega | (simp; omega) | simp)
    have o46 := o35.below hb4 (by first | omega | (simp; omega) | simp)
    have o47 := o36.below hb4 (by first | omega | (simp; omega) | simp)
    have o48 := o37.below hb4 (by first | omega | (simp; omega) | simp)
    have hz49 := hb4.size
    simp at hz49
    have B50 := B38.trans (hb4.mono (by first | omega | (simp; omega) | simp))
    clear hb4
    have z51 : w1.heap.size < w4.heap.size := by omega
    have z52 : w2.heap.size < w4.heap.size := by omega
    have z53 : w3.heap.size < w4.heap.size := by omega
    go_wp2_with fail
    refine (implRightsOf_yes E A1 c1 xs _ _ _ o45.ints (by first | omega | (simp; omega) | simp) HK.out).mono ?_
    rintro e w5 ⟨A5, c5, rfl, ho5, hb5⟩
    obtain ⟨a54, a54'⟩ := keep2 hb5 ⟨a42, a42'⟩ (by first | omega | (simp; omega) | simp)
    obtain ⟨a55, a55'⟩ := keep2 hb5 ⟨a43, a43'⟩ (by first | omega | (simp; omega) | simp)
    obtain ⟨a56, a56'⟩ := keep2 hb5 ⟨a44, a44'⟩ (by first | omega | (simp; omega) | simp)
    have o57 := o45.below hb5 (by first | omega | (simp; omega) | simp)
    have o58 := o46.below hb5 (by first | omega | (simp; omega) | simp)
    have o59 := o47.below hb5 (by first | omega | (simp; omega) | simp)
    have o60 := o48.below hb5 (by first | omega | (simp; omega) | simp)
    have hz61 := hb5.size
    have B62 := B50.trans (hb5.mono (by first | omega | (simp; omega) | simp))
    clear hb5
    have z63 : w1.heap.size < w5.heap.size := by omega
    have z64 : w2.heap.size < w5.heap.size := by omega
    have z65 : w3.heap.size < w5.heap.size := by omega
    go_wp2_with fail
    refine (implRightsOf_yes E A2 c2 (placed xs ys xs.length xs.length) _ _ _ o59.ints (by first | omega | (simp; omega) | simp) HP.out).mono ?_
    rintro e w6 ⟨A6, c6, rfl, ho6, hb6⟩
    obtain ⟨a66, a66'⟩ := keep2 hb6 ⟨a54, a54'⟩ (by first | omega | (simp; omega) | simp)
    obtain ⟨a67, a67'⟩ := keep2 hb6 ⟨a55, a55'⟩ (by first | omega | (simp; omega) | simp)
    obtain ⟨a68, a68'⟩ := keep2 hb6 ⟨a56, a56'⟩ (by first | omega | (simp; omega) | simp)
    have o69 := o57.below hb6 (by first | omega | (simp; omega) | simp)
    have o70 := o58.below hb6 (by first | omega | (simp; omega) | simp)
    have o71 := o59.below hb6 (by first | omega | (simp; omega) | simp)
    have o72 := o60.below hb6 (by first | omega | (simp; omega) | simp)
    have o73 := ho5.below hb6 (by first | omega | (simp; omega) | simp)
    have hz74 := hb6.size
    have B75 := B62.trans (hb6.mono (by first | omega | (simp; omega) | simp))
    clear hb6
    have z76 : w1.heap.size < w6.heap.size := by omega
    have z77 : w2.heap.size < w6.heap.size := by omega
    have z78 : w3.heap.size < w6.heap.size := by omega
    go_wp2
    go_loopw [11] (fun i wr => ∃ k : Nat, k ≤ (rightsRow E xs).length ∧ i = .int .i64 k ∧ Below w6.heap.size w6 wr) (fun i _ => (rightsRow E xs).length - (intOf i).toNat)
    case atStart => exact ⟨0, Nat.zero_le _, rfl, Below.refl _ _⟩
    case round =>
      obtain ⟨k, hk, rfl, hbl⟩ := hrel
      obtain ⟨w7, rfl⟩ : ∃ x, x = wr := ⟨_, rfl⟩
      have hbl0 := hbl
      obtain ⟨a79, a79'⟩ := keep2 hbl ⟨a66, a66'⟩ (by first | omega | (simp; omega) | simp)
      obtain ⟨a80, a80'⟩ := keep2 hbl ⟨a67, a67'⟩ (by first | omega | (simp; omega) | simp)
      obtain ⟨a81, a81'⟩ := keep2 hbl ⟨a68, a68'⟩ (by first | omega | (simp; omega) | simp)
      have o82 := o69.below hbl (by first | omega | (simp; omega) | simp)
      have o83 := o70.below hbl (by first | omega | (simp; omega) | simp)
      have o84 := o71.below hbl (by first | omega | (simp; omega) | simp)
      have o85 := o72.below hbl (by first | omega | (simp; omega) | simp)
      have o86 := o73.below hbl (by first | omega | (simp; omega) | simp)
      have o87 := ho6.below hbl (by first | omega | (simp; omega) | simp)
      have hz88 := hbl.size
      have B89 := B75.trans (hbl.mono (by first | omega | (simp; omega) | simp))
      clear hbl
      have z90 : w1.heap.size < w7.heap.size := by omega
      have z91 : w2.heap.size < w7.heap.size := by omega
      have z92 : w3.heap.size < w7.heap.size := by omega
      by_cases hlt : k < (rightsRow E xs).length
      · obtain ⟨b0_, o0_, rfl, _, hbh0, hc0⟩ := o86.ints.at_ (k := k) hlt
        obtain ⟨y, hk', hy0, hy1, hy2⟩ := named_row HO.out (rightsRow_length E xs) (by rw [rightsRow_length, placed_length]) (named_rights' HO.out) k hlt
        obtain ⟨b1_, o1_, rfl, _, hbh1, hc1⟩ := o83.ints.at_ (k := k) hk'
        obtain ⟨b2_, o2_, rfl, _, hbh2, hc2⟩ := o87.ints.at_ (k := y) hy1
        rw [hy0] at hc1
        rw [hy2] at hc2
        generalize (rightsRow E xs)[k]'hlt = vr at hc0 hc2
        have hd1 : (vr != vr) = false := by simp
        have hk0 : (0 : Int) ≤ (k : Int) := by omega
        have hk1 : (k : Int) < ((rightsRow E xs).length : Int) := by omega
        have hk2 : (k : Int) < (ys.length : Int) := by omega
        have hk3 : (y : Int) < ((rightsRow E (placed xs ys xs.length xs.length)).length : Int) := by omega
        have hk4 : (0 : Int) ≤ (y : Int) := by omega
        have H := Lib.hid hbl0
        go_wp2
        go_quiet (fail)
        go_wp2
        go_roundw
        case rel => exact ⟨k + 1, by omega, by go_num, below_drewN H.out _⟩
        case measure => simp [intOf]; omega
      · have hkN : k = (rightsRow E xs).length := by omega
        subst hkN
        clear hbl0
        go_wp2_with fail
        have hEE : (E == E) = true := by simp
        have hSS : (xs.sum == xs.sum) = true := by simp
        have hWW : w.heap.size ≤ w7.heap.size := by omega
        have g_c : w1.heap.size < w7.heap.size := by omega
        have g_impl : w2.heap.size < w7.heap.size := by omega
        have g_kc : w1.heap.size ≤ w7.heap.size := by omega
        have g_kx : w2.heap.size ≤ w7.heap.size := by omega
        have hS0 : (fun w' : World => w'.cell? ⟨w1.heap.size, 0, none⟩ = some (.int .i64 E) ∧ w'.cell? ⟨w1.heap.size, 1, none⟩ = some (.slice A1 xs.length c1) ∧ w'.cell? ⟨w2.heap.size, 0, none⟩ = some (.int .i64 (E)) ∧ w'.cell? ⟨w2.heap.size, 1, none⟩ = some (.slice A2 (placed xs ys xs.length xs.length).length c2) ∧ Ints w' (w.heap.size) (w1.heap.size) (A1) (xs) ∧ Ints w' (w1.heap.size + 1) (w2.heap.size) (A2) (placed xs ys xs.length xs.length) ∧ w7.heap.size ≤ w'.heap.size ∧ Below w.heap.size w w') w7.drew := ⟨a79, a79', a80, a80', o82.ints, o84.ints, Nat.le_refl _, B89.drew⟩
        go_region_held3 (fun w' => w'.cell? ⟨w1.heap.size, 0, none⟩ = some (.int .i64 E) ∧ w'.cell? ⟨w1.heap.size, 1, none⟩ = some (.slice A1 xs.length c1) ∧ w'.cell? ⟨w2.heap.size, 0, none⟩ = some (.int .i64 (E)) ∧ w'.cell? ⟨w2.heap.size, 1, none⟩ = some (.slice A2 (placed xs ys xs.length xs.length).length c2) ∧ Ints w' (w.heap.size) (w1.heap.size) (A1) (xs) ∧ Ints w' (w1.heap.size + 1) (w2.heap.size) (A2) (placed xs ys xs.length xs.length) ∧ w7.heap.size ≤ w'.heap.size ∧ Below w.heap.size w w') (first | assumption | exact hS0 | exact HS9 | go_keep)
            (first
              | (go_at_call 21
                 obtain ⟨y0, y1, y2, y3, kc, kx, zz, BB⟩ := (by assumption : (fun w' : World => w'.cell? ⟨w1.heap.size, 0, none⟩ = some (.int .i64 E) ∧ w'.cell? ⟨w1.heap.size, 1, none⟩ = some (.slice A1 xs.length c1) ∧ w'.cell? ⟨w2.heap.size, 0, none⟩ = some (.int .i64 (E)) ∧ w'.cell? ⟨w2.heap.size, 1, none⟩ = some (.slice A2 (placed xs ys xs.length xs.length).length c2) ∧ Ints w' (w.heap.size) (w1.heap.size) (A1) (xs) ∧ Ints w' (w1.heap.size + 1) (w2.heap.size) (A2) (placed xs ys xs.length xs.length) ∧ w7.heap.size ≤ w'.heap.size ∧ Below w.heap.size w w') _)
                 refine (implCaseOk_yes E A2 c2 (placed xs ys xs.length xs.length) _ _ _ kx (by omega) HL5.out HP.out).mono ?_
                 rintro e w9 ⟨rfl, hb9⟩
                 have HS9 : (fun w' => w'.cell? ⟨w1.heap.size, 0, none⟩ = some (.int .i64 E) ∧ w'.cell? ⟨w1.heap.size, 1, none⟩ = some (.slice A1 xs.length c1) ∧ w'.cell? ⟨w2.heap.size, 0, none⟩ = some (.int .i64 (E)) ∧ w'.cell? ⟨w2.heap.size, 1, none⟩ = some (.slice A2 (placed xs ys xs.length xs.length).length c2) ∧ Ints w' (w.heap.size) (w1.heap.size) (A1) (xs) ∧ Ints w' (w1.heap.size + 1) (w2.heap.size) (A2) (placed xs ys xs.length xs.length) ∧ w7.heap.size ≤ w'.heap.size ∧ Below w.heap.size w w') w9 := ⟨(keep2 hb9 ⟨y0, y1⟩ (by omega)).1, (keep2 hb9 ⟨y0, y1⟩ (by omega)).2, (keep2 hb9 ⟨y2, y3⟩ (by omega)).1, (keep2 hb9 ⟨y2, y3⟩ (by omega)).2, kc.below hb9 (by omega), kx.below hb9 (by omega), Nat.le_trans zz hb9.size, BB.trans (hb9.mono (by omega))⟩)
              | (go_at_call 22
                 obtain ⟨y0, y1, y2, y3, kc, kx, zz, BB⟩ := (by assumption : (fun w' : World => w'.cell? ⟨w1.heap.size, 0, none⟩ = some (.int .i64 E) ∧ w'.cell? ⟨w1.heap.size, 1, none⟩ = some (.slice A1 xs.length c1) ∧ w'.cell? ⟨w2.heap.size, 0, none⟩ = some (.int .i64 (E)) ∧ w'.cell? ⟨w2.heap.size, 1, none⟩ = some (.slice A2 (placed xs ys xs.length xs.length).length c2) ∧ Ints w' (w.heap.size) (w1.heap.size) (A1) (xs) ∧ Ints w' (w1.heap.size + 1) (w2.heap.size) (A2) (placed xs ys xs.length xs.length) ∧ w7.heap.size ≤ w'.heap.size ∧ Below w.heap.size w w') _)
                 refine (implOwed_sum E xs.sum A2 c2 (placed xs ys xs.length xs.length) _ _ _ kx (by omega) HL5.out HP.out HS.out).mono ?_
                 rintro e w9 ⟨rfl, hb9⟩
                 have HS9 : (fun w' => w'.cell? ⟨w1.heap.size, 0, none⟩ = some (.int .i64 E) ∧ w'.cell? ⟨w1.heap.size, 1, none⟩ = some (.slice A1 xs.length c1) ∧ w'.cell? ⟨w2.heap.size, 0, none⟩ = some (.int .i64 (E)) ∧ w'.cell? ⟨w2.heap.size, 1, none⟩ = some (.slice A2 (placed xs ys xs.length xs.length).length c2) ∧ Ints w' (w.heap.size) (w1.heap.size) (A1) (xs) ∧ Ints w' (w1.heap.size + 1) (w2.heap.size) (A2) (placed xs ys xs.length xs.length) ∧ w7.heap.size ≤ w'.heap.size ∧ Below w.heap.size w w') w9 := ⟨(keep2 hb9 ⟨y0, y1⟩ (by omega)).1, (keep2 hb9 ⟨y0, y1⟩ (by omega)).2, (keep2 hb9 ⟨y2, y3⟩ (by omega)).1, (keep2 hb9 ⟨y2, y3⟩ (by omega)).2, kc.below hb9 (by omega), kx.below hb9 (by omega), Nat.le_trans zz hb9.size, BB.trans (hb9.mono (by omega))⟩)
              | (go_at_call 22
                 obtain ⟨y0, y1, y2, y3, kc, kx, zz, BB⟩ := (by assumption : (fun w' : World => w'.cell? ⟨w1.heap.size, 0, none⟩ = some (.int .i64 E) ∧ w'.cell? ⟨w1.heap.size, 1, none⟩ = some (.slice A1 xs.length c1) ∧ w'.cell? ⟨w2.heap.size, 0, none⟩ = some (.int .i64 (E)) ∧ w'.cell? ⟨w2.heap.size, 1, none⟩ = some (.slice A2 (placed xs ys xs.length xs.length).length c2) ∧ Ints w' (w.heap.size) (w1.heap.size) (A1) (xs) ∧ Ints w' (w1.heap.size + 1) (w2.heap.size) (A2) (placed xs ys xs.length xs.length) ∧ w7.heap.size ≤ w'.heap.size ∧ Below w.heap.size w w') _)
                 refine (implOwed_sum E xs.sum A1 c1 xs _ _ _ kc (by omega) hl5 HK.out rfl).mono ?_
                 rintro e w9 ⟨rfl, hb9⟩
                 have HS9 : (fun w' => w'.cell? ⟨w1.heap.size, 0, none⟩ = some (.int .i64 E) ∧ w'.cell? ⟨w1.heap.size, 1, none⟩ = some (.slice A1 xs.length c1) ∧ w'.cell? ⟨w2.heap.size, 0, none⟩ = some (.int .i64 (E)) ∧ w'.cell? ⟨w2.heap.size, 1, none⟩ = some (.slice A2 (placed xs ys xs.length xs.length).length c2) ∧ Ints w' (w.heap.size) (w1.heap.size) (A1) (xs) ∧ Ints w' (w1.heap.size + 1) (w2.heap.size) (A2) (placed xs ys xs.length xs.length) ∧ w7.heap.size ≤ w'.heap.size ∧ Below w.heap.size w w') w9 := ⟨(keep2 hb9 ⟨y0, y1⟩ (by omega)).1, (keep2 hb9 ⟨y0, y1⟩ (by omega)).2, (keep2 hb9 ⟨y2, y3⟩ (by omega)).1, (keep2 hb9 ⟨y2, y3⟩ (by omega)).2, kc.below hb9 (by omega), kx.below hb9 (by omega), Nat.le_trans zz hb9.size, BB.trans (hb9.mono (by omega))⟩))
        go_wp2
        go_ret
        exact ⟨rfl, HS9.2.2.2.2.2.2.2⟩
  · have hnb' : namedB E xs ys = false := by simpa using hnb
    have HL5 : Hid (([] : List Int).length ≤ 1152921504606846976) := by show _ ≤ _; simp
    have HO := Lib.hid hnb'
    clear hnb hnb'
    go_wp2_with fail
    refine (implNamed_n E A1 c1 xs D1 d1 ys _ _ _ o4.ints (by first | omega | (simp; omega) | simp) hl5 _ _ o5.ints (by first | omega | (simp; omega) | simp) hl6 HO.out).mono ?_
    rintro e w2 ⟨A2, c2, rfl, ho2, hb2⟩
    have hp2 : Own w2 (w1.heap.size + 1) w2.heap.size A2 (([] : List Int)) := ho2.more (by simp) (Nat.le_refl _)
    obtain ⟨a8, a8'⟩ := keep2 hb2 ⟨a7, a7'⟩ (by first | omega | (simp; omega) | simp)
    have o9 := o4.below hb2 (by first | omega | (simp; omega) | simp)
    have o10 := o5.below hb2 (by first | omega | (simp; omega) | simp)
    have hz11 := hb2.size
    simp at hz11
    have B12 := B6.trans (hb2.mono (by first | omega | (simp; omega) | simp))
    clear hb2
    have z13 : w1.heap.size < w2.heap.size := by omega
    have x14 := new2 w2 (.int .i64 (0)) (.slice A2 (([] : List Int)).length c2) 25
    have q15 := keep2 ((Below.refl w2.heap.size w2).alloc (Nat.le_refl _) (.cells #[.int .i64 (0), .slice A2 (([] : List Int)).length c2] 25)) ⟨a8, a8'⟩ (by omega)
    have o16 := o9.alloc (by omega) (.cells #[.int .i64 (0), .slice A2 (([] : List Int)).length c2] 25)
    have o17 := o10.alloc (by omega) (.cells #[.int .i64 (0), .slice A2 (([] : List Int)).length c2] 25)
    have o18 := hp2.alloc (by omega) (.cells #[.int .i64 (0), .slice A2 (([] : List Int)).length c2] 25)
    have B19 := B12.alloc (by omega) (.cells #[.int .i64 (0), .slice A2 (([] : List Int)).length c2] 25)
    obtain ⟨a20, a20'⟩ := q15
    obtain ⟨a21, a21'⟩ := x14
    go_wp2_with fail
    refine (specNamed_n E A1 c1 xs D1 d1 ys _ _ _ o16.ints (by first | omega | (simp; omega) | simp) hl5 _ _ o17.ints (by first | omega | (simp; omega) | simp) hl6 HO.out).mono ?_
    rintro e w3 ⟨A3, c3, rfl, ho3, hb3⟩
    have hp3 : Own w3 (w2.heap.size + 1) w3.heap.size A3 (([] : List Int)) := ho3.more (by simp) (Nat.le_refl _)
    obtain ⟨a22, a22'⟩ := keep2 hb3 ⟨a20, a20'⟩ (by first | omega | (simp; omega) | simp)
    obtain ⟨a23, a23'⟩ := keep2 hb3 ⟨a21, a21'⟩ (by first | omega | (simp; omega) | simp)
    have o24 := o16.below hb3 (by first | omega | (simp; omega) | simp)
    have o25 := o17.below hb3 (by first | omega | (simp; omega) | simp)
    have o26 := o18.below hb3 (by first | omega | (simp; omega) | simp)
    have hz27 := hb3.size
    simp at hz27
    have B28 := B19.trans (hb3.mono (by first | omega | (simp; omega) | simp))
    clear hb3
    have z29 : w1.heap.size < w3.heap.size := by omega
    have z30 : w2.heap.size < w3.heap.size := by omega
    have x31 := new2 w3 (.int .i64 (0)) (.slice A3 (([] : List Int)).length c3) 25
    have q32 := keep2 ((Below.refl w3.heap.size w3).alloc (Nat.le_refl _) (.cells #[.int .i64 (0), .slice A3 (([] : List Int)).length c3] 25)) ⟨a22, a22'⟩ (by omega)
    have q33 := keep2 ((Below.refl w3.heap.size w3).alloc (Nat.le_refl _) (.cells #[.int .i64 (0), .slice A3 (([] : List Int)).length c3] 25)) ⟨a23, a23'⟩ (by omega)
    have o34 := o24.alloc (by omega) (.cells #[.int .i64 (0), .slice A3 (([] : List Int)).length c3] 25)
    have o35 := o25.alloc (by omega) (.cells #[.int .i64 (0), .slice A3 (([] : List Int)).length c3] 25)
    have o36 := o26.alloc (by omega) (.cells #[.int .i64 (0), .slice A3 (([] : List Int)).length c3] 25)
    have o37 := hp3.alloc (by omega) (.cells #[.int .i64 (0), .slice A3 (([] : List Int)).length c3] 25)
    have B38 := B28.alloc (by omega) (.cells #[.int .i64 (0), .slice A3 (([] : List Int)).length c3] 25)
    obtain ⟨a39, a39'⟩ := q32
    obtain ⟨a40, a40'⟩ := q33
    obtain ⟨a41, a41'⟩ := x31
    go_wp2_with fail
    refine (sameCase_yes (0) A2 A3 c2 c3 (([] : List Int)) _ _ _ _ _ o36.ints o37.ints (by first | omega | (simp; omega) | simp) (by first | omega | (simp; omega) | simp) (by first | exact HL5.out | simp)).mono ?_
    rintro e w4 ⟨rfl, hb4⟩
    obtain ⟨a42, a42'⟩ := keep2 hb4 ⟨a39, a39'⟩ (by first | omega | (simp; omega) | simp)
    obtain ⟨a43, a43'⟩ := keep2 hb4 ⟨a40, a40'⟩ (by first | omega | (simp; omega) | simp)
    obtain ⟨a44, a44'⟩ := keep2 hb4 ⟨a41, a41'⟩ (by first | omega | (simp; omega) | simp)
    have o45 := o34.below hb4 (by first | omega | (simp; omega) | simp)
    have o46 := o35.below hb4 (by first | omega | (simp; omega) | simp)
    have o47 := o36.below hb4 (by first | omega | (simp; omega) | simp)
    have o48 := o37.below hb4 (by first | omega | (simp; omega) | simp)
    have hz49 := hb4.size
    simp at hz49
    have B50 := B38.trans (hb4.mono (by first | omega | (simp; omega) | simp))
    clear hb4
    have z51 : w1.heap.size < w4.heap.size := by omega
    have z52 : w2.heap.size < w4.heap.size := by omega
    have z53 : w3.heap.size < w4.heap.size := by omega
    go_wp2_with fail
    refine (alive_any _).mono ?_
    rintro e w5 ⟨rfl, hb5⟩
    obtain ⟨a54, a54'⟩ := keep2 hb5 ⟨a42, a42'⟩ (by first | omega | (simp; omega) | simp)
    obtain ⟨a55, a55'⟩ := keep2 hb5 ⟨a43, a43'⟩ (by first | omega | (simp; omega) | simp)
    obtain ⟨a56, a56'⟩ := keep2 hb5 ⟨a44, a44'⟩ (by first | omega | (simp; omega) | simp)
    have o57 := o45.below hb5 (by first | omega | (simp; omega) | simp)
    have o58 := o46.below hb5 (by first | omega | (simp; omega) | simp)
    have o59 := o47.below hb5 (by first | omega | (simp; omega) | simp)
    have o60 := o48.below hb5 (by first | omega | (simp; omega) | simp)
    have hz61 := hb5.size
    have B62 := B50.trans (hb5.mono (by first | omega | (simp; omega) | simp))
    clear hb5
    have z63 : w1.heap.size < w5.heap.size := by omega
    have z64 : w2.heap.size < w5.heap.size := by omega
    have z65 : w3.heap.size < w5.heap.size := by omega
    go_wp2
    go_ret
    exact ⟨rfl, B62⟩

set_option maxRecDepth 10000 in
set_option maxHeartbeats 400000 in
theorem fnNamedCase_big (A0 : Option Addr) (c0 : Nat) (bs : List Int) (w : World) (hl : ¬ bs.length ≤ 1048576) (hm : bs.length ≤ 9223372036854775807) :
    Calls Try.prog 3 #[.slice A0 bs.length c0] w fun e w' => e = .returned (.bool true) ∧ Below w.heap.size w w' := by
  go_enter Try.func3, Try.ntmps3
  go_wp2
  go_ret
  exact ⟨rfl, Below.refl _ _⟩

theorem fnNamedCase_all (A0 : Option Addr) (c0 : Nat) (bs : List Int) (w : World) (h0 : Bytes w w.heap.size A0 bs) (hm : bs.length ≤ 9223372036854775807) (hc0 : bs.length ≤ c0) :
    Calls Try.prog 3 #[.slice A0 bs.length c0] w fun e w' => e = .returned (.bool true) ∧ Below w.heap.size w w' := by
  by_cases hl : bs.length ≤ 1048576
  · exact fnNamedCase_walk A0 c0 bs w h0 hl hc0
  · exact fnNamedCase_big A0 c0 bs w hl hm

end Go.Proofs.Ytpoafafoncgenaa
