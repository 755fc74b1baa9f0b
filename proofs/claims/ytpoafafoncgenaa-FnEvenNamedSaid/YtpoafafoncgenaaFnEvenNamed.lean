/-
  The law of names returns true for every code, and writes nothing that was there. No condition.
-/
import Derived.Test.YtpoafafoncgenaaDrawN
import Derived.Test.YtpoafafoncgenaaNamedLaw
import Derived.Test.YtpoafafoncgenaaEvenLaw
import Derived.Deep.RegionHeld3
namespace Go.Proofs.Ytpoafafoncgenaa
open Go.RowKit

set_option maxRecDepth 10000 in
set_option maxHeartbeats 2000000 in
theorem fnEvenNamed_walk (A0 : Option Addr) (c0 : Nat) (bs : List Int) (w : World) (h0 : Bytes w w.heap.size A0 bs) (hl : bs.length ≤ 1048576) (hc0 : bs.length ≤ c0) :
    Calls Try.prog 13 #[.slice A0 bs.length c0] w fun e w' => e = .returned (.bool true) ∧ Below w.heap.size w w' := by
  have hlm : bs.length ≤ 9223372036854775807 := by omega
  go_enter Try.func13, Try.ntmps13
  go_wp2_with fail
  refine (drawNamedCase_any A0 c0 bs _ h0 hlm hc0).mono ?_
  rintro e w1 ⟨E, A1, c1, D1, d1, xs, ys, hx5, hy6, rfl, ho1, hq1, hb1⟩
  have hz1 := hb1.size
  have B2 := (Below.refl w.heap.size w).trans (hb1.mono (by first | omega | (simp; omega) | simp))
  clear hb1
  have x3 := new2 w1 (.int .i64 E) (.slice A1 xs.length c1) 25
  have o4 := ho1.alloc (by omega) (.cells #[.int .i64 E, .slice A1 xs.length c1] 25)
  have o5 := hq1.alloc (by omega) (.cells #[.int .i64 E, .slice A1 xs.length c1] 25)
  have B6 := B2.alloc (by omega) (.cells #[.int .i64 E, .slice A1 xs.length c1] 25)
  have hl5 : xs.length ≤ 1152921504606846976 := by omega
  have hl6 : ys.length ≤ 1152921504606846976 := by omega
  obtain ⟨a7, a7'⟩ := x3
  by_cases hnb : namedB E xs ys = true
  · have hnb' : namedB E xs ys = true := by simpa using hnb
    have HK := Lib.hid (namedB_parts hnb').1
    have HQ := Lib.hid (namedB_parts hnb').2
    have HP := Lib.hid (named_ok (namedB_parts hnb').1 (namedB_parts hnb').2).1
    have hbd := caseOk_bd HK.out
    have hq1 : (((evenAw E xs).length : Int) != (xs.length : Int)) = false := by rw [evenAw_length]; simp
    have hq2 : (((evenAw E (placed xs ys xs.length xs.length)).length : Int) != ((evenAw E xs).length : Int)) = false := by rw [evenAw_length, evenAw_length, placed_length]; simp
    have hq3 : (((evenLo E xs).length : Int) != ((evenAw E xs).length : Int)) = false := by rw [evenAw_length, evenLo_length]; simp
    have hq4 : (((evenLo E (placed xs ys xs.length xs.length)).length : Int) != ((evenAw E xs).length : Int)) = false := by rw [evenAw_length, evenLo_length, placed_length]; simp
    have HO := Lib.hid hnb'
    clear hnb hnb'
    go_wp2_with fail
    refine (implNamed_y E A1 c1 xs D1 d1 ys _ _ _ o4.ints (by first | omega | (simp; omega) | simp) hl5 _ _ o5.ints (by first | omega | (simp; omega) | simp) hl6 HO.out).mono ?_
    rintro e w2 ⟨A2, c2, rfl, ho2, hb2⟩
    have hp2 : Own w2 (w1.heap.size + 1) w2.heap.size A2 (placed xs ys xs.length xs.length) := ho2.more (by simp) (Nat.le_refl _)
    obtain ⟨a8, a8'⟩ := keep2 hb2 ⟨a7, a7'⟩ (by first | omega | (simp; omega) | simp)
    have o9 := o4.below hb2 (by first | omega | (simp; omega) | simp)
    have o10 := o5.below hb2 (by first | omega | (simp; omega) | simp)
    have hz11 := hb2.size
    simp at hz11
    have B12 := B6.trans (hb2.mono (by first | omega | (simp; omega) | simp))
    clear hb2
    have z13 : w1.heap.size < w2.heap.size := by omega
    have x14 := new2 w2 (.int .i64 (E)) (.slice A2 (placed xs ys xs.length xs.length).length c2) 25
    have q15 := keep2 ((Below.refl w2.heap.size w2).alloc (Nat.le_refl _) (.cells #[.int .i64 (E), .slice A2 (placed xs ys xs.length xs.length).length c2] 25)) ⟨a8, a8'⟩ (by omega)
    have o16 := o9.alloc (by omega) (.cells #[.int .i64 (E), .slice A2 (placed xs ys xs.length xs.length).length c2] 25)
    have o17 := o10.alloc (by omega) (.cells #[.int .i64 (E), .slice A2 (placed xs ys xs.length xs.length).length c2] 25)
    have o18 := hp2.alloc (by omega) (.cells #[.int .i64 (E), .slice A2 (placed xs ys xs.length xs.length).length c2] 25)
    have B19 := B12.alloc (by omega) (.cells #[.int .i64 (E), .slice A2 (placed xs ys xs.length xs.length).length c2] 25)
    obtain ⟨a20, a20'⟩ := q15
    obtain ⟨a21, a21'⟩ := x14
    go_wp2_with fail
    refine (implEvenAwards_yes E A1 c1 xs _ _ _ o16.ints (by first | omega | (simp; omega) | simp) HK.out).mono ?_
    rintro e w3 ⟨A3, c3, rfl, ho3, hb3⟩
    have hp3 : Own w3 (w2.heap.size + 1) w3.heap.size A3 (evenAw E xs) := ho3.more (by simp) (Nat.le_refl _)
    obtain ⟨a22, a22'⟩ := keep2 hb3 ⟨a20, a20'⟩ (by first | omega | (simp; omega) | simp)
    obtain ⟨a23, a23'⟩ := keep2 hb3 ⟨a21, a21'⟩ (by first | omega | (simp; omega) | simp)
    have o24 := o16.below hb3 (by first | omega | (simp; omega) | simp)
    have o25 := o17.below hb3 (by first | omega | (simp; omega) | simp)
    have o26 := o18.below hb3 (by first | omega | (simp; omega) | simp)
    have hz27 := hb3.size
    simp at hz27
    have B28 := B19.trans (hb3.mono (by first | omega | (simp; omega) | simp))
    clear hb3
    have z29 : w1.heap.size < w3.heap.size := by omega
    have z30 : w2.heap.size < w3.heap.size := by omega
    go_wp2_with fail
    refine (implEvenAwards_yes E A2 c2 (placed xs ys xs.length xs.length) _ _ _ o26.ints (by first | omega | (simp; omega) | simp) HP.out).mono ?_
    rintro e w4 ⟨A4, c4, rfl, ho4, hb4⟩
    obtain ⟨a31, a31'⟩ := keep2 hb4 ⟨a22, a22'⟩ (by first | omega | (simp; omega) | simp)
    obtain ⟨a32, a32'⟩ := keep2 hb4 ⟨a23, a23'⟩ (by first | omega | (simp; omega) | simp)
    have o33 := o24.below hb4 (by first | omega | (simp; omega) | simp)
    have o34 := o25.below hb4 (by first | omega | (simp; omega) | simp)
    have o35 := o26.below hb4 (by first | omega | (simp; omega) | simp)
    have o36 := hp3.below hb4 (by first | omega | (simp; omega) | simp)
    have hz37 := hb4.size
    have B38 := B28.trans (hb4.mono (by first | omega | (simp; omega) | simp))
    clear hb4
    have z39 : w1.heap.size < w4.heap.size := by omega
    have z40 : w2.heap.size < w4.heap.size := by omega
    go_wp2_with fail
    refine (implEvenLosses_yes E A1 c1 xs _ _ _ o33.ints (by first | omega | (simp; omega) | simp) HK.out).mono ?_
    rintro e w5 ⟨A5, c5, rfl, ho5, hb5⟩
    obtain ⟨a41, a41'⟩ := keep2 hb5 ⟨a31, a31'⟩ (by first | omega | (simp; omega) | simp)
    obtain ⟨a42, a42'⟩ := keep2 hb5 ⟨a32, a32'⟩ (by first | omega | (simp; omega) | simp)
    have o43 := o33.below hb5 (by first | omega | (simp; omega) | simp)
    have o44 := o34.below hb5 (by first | omega | (simp; omega) | simp)
    have o45 := o35.below hb5 (by first | omega | (simp; omega) | simp)
    have o46 := o36.below hb5 (by first | omega | (simp; omega) | simp)
    have o47 := ho4.below hb5 (by first | omega | (simp; omega) | simp)
    have hz48 := hb5.size
    have B49 := B38.trans (hb5.mono (by first | omega | (simp; omega) | simp))
    clear hb5
    have z50 : w1.heap.size < w5.heap.size := by omega
    have z51 : w2.heap.size < w5.heap.size := by omega
    go_wp2_with fail
    refine (implEvenLosses_yes E A2 c2 (placed xs ys xs.length xs.length) _ _ _ o45.ints (by first | omega | (simp; omega) | simp) HP.out).mono ?_
    rintro e w6 ⟨A6, c6, rfl, ho6, hb6⟩
    obtain ⟨a52, a52'⟩ := keep2 hb6 ⟨a41, a41'⟩ (by first | omega | (simp; omega) | simp)
    obtain ⟨a53, a53'⟩ := keep2 hb6 ⟨a42, a42'⟩ (by first | omega | (simp; omega) | simp)
    have o54 := o43.below hb6 (by first | omega | (simp; omega) | simp)
    have o55 := o44.below hb6 (by first | omega | (simp; omega) | simp)
    have o56 := o45.below hb6 (by first | omega | (simp; omega) | simp)
    have o57 := o46.below hb6 (by first | omega | (simp; omega) | simp)
    have o58 := o47.below hb6 (by first | omega | (simp; omega) | simp)
    have o59 := ho5.below hb6 (by first | omega | (simp; omega) | simp)
    have hz60 := hb6.size
    have B61 := B49.trans (hb6.mono (by first | omega | (simp; omega) | simp))
    clear hb6
    have z62 : w1.heap.size < w6.heap.size := by omega
    have z63 : w2.heap.size < w6.heap.size := by omega
    go_wp2
    go_loopw [11] (fun i wr => ∃ k : Nat, k ≤ xs.length ∧ i = .int .i64 k ∧ Below w6.heap.size w6 wr) (fun i _ => xs.length - (intOf i).toNat)
    case atStart => exact ⟨0, Nat.zero_le _, rfl, Below.refl _ _⟩
    case round =>
      obtain ⟨k, hk, rfl, hbl⟩ := hrel
      obtain ⟨w7, rfl⟩ : ∃ x, x = wr := ⟨_, rfl⟩
      have hbl0 := hbl
      obtain ⟨a64, a64'⟩ := keep2 hbl ⟨a52, a52'⟩ (by first | omega | (simp; omega) | simp)
      obtain ⟨a65, a65'⟩ := keep2 hbl ⟨a53, a53'⟩ (by first | omega | (simp; omega) | simp)
      have o66 := o54.below hbl (by first | omega | (simp; omega) | simp)
      have o67 := o55.below hbl (by first | omega | (simp; omega) | simp)
      have o68 := o56.below hbl (by first | omega | (simp; omega) | simp)
      have o69 := o57.below hbl (by first | omega | (simp; omega) | simp)
      have o70 := o58.below hbl (by first | omega | (simp; omega) | simp)
      have o71 := o59.below hbl (by first | omega | (simp; omega) | simp)
      have o72 := ho6.below hbl (by first | omega | (simp; omega) | simp)
      have hz73 := hbl.size
      have B74 := B61.trans (hbl.mono (by first | omega | (simp; omega) | simp))
      clear hbl
      have z75 : w1.heap.size < w7.heap.size := by omega
      have z76 : w2.heap.size < w7.heap.size := by omega
      by_cases hlt : k < xs.length
      · have hka : k < (evenAw E xs).length := by rw [evenAw_length]; exact hlt
        have hkp : k < (evenLo E xs).length := by rw [evenLo_length]; exact hlt
        obtain ⟨y, hk', hy0, hy1, hy2⟩ := named_row HO.out (evenAw_length E xs) (by rw [evenAw_length, placed_length]) (named_even_row HK.out HQ.out) k hka
        obtain ⟨y2, _, hz0, hz1, hz2⟩ := named_row HO.out (evenLo_length E xs) (by rw [evenLo_length, placed_length]) (named_loss_row HK.out HQ.out) k hkp
        obtain rfl : y = y2 := by have := hy0.symm.trans hz0; omega
        obtain ⟨b1_, o1_, rfl, _, hbh1, hc1⟩ := o67.ints.at_ (k := k) hk'
        obtain ⟨b2_, o2_, rfl, _, hbh2, hc2⟩ := o69.ints.at_ (k := k) hka
        obtain ⟨b3_, o3_, rfl, _, hbh3, hc3⟩ := o70.ints.at_ (k := y) hy1
        obtain ⟨b4_, o4_, rfl, _, hbh4, hc4⟩ := o71.ints.at_ (k := k) hkp
        obtain ⟨b5_, o5_, rfl, _, hbh5, hc5⟩ := o72.ints.at_ (k := y) hz1
        rw [hy0] at hc1
        rw [hy2] at hc3
        rw [hz2] at hc5
        generalize (evenAw E xs)[k]'hka = va at hc2 hc3
        generalize (evenLo E xs)[k]'hkp = vb at hc4 hc5
        have hd1 : (va != va) = false := by simp
        have hd2 : (vb != vb) = false := by simp
        clear hy2 hz2 hz0 hy0
        have hk0 : (0 : Int) ≤ (k : Int) := by omega
        have hk1 : (k : Int) < ((evenAw E xs).length : Int) := by omega
        have hk2 : (k : Int) < ((evenLo E xs).length : Int) := by omega
        have hk3 : (k : Int) < (ys.length : Int) := by omega
        have hk4 : (y : Int) < ((evenAw E (placed xs ys xs.length xs.length)).length : Int) := by omega
        have hk5 : (y : Int) < ((evenLo E (placed xs ys xs.length xs.length)).length : Int) := by omega
        have hk6 : (0 : Int) ≤ (y : Int) := by omega
        have hk7 : (k : Int) < (xs.length : Int) := by omega
        have H := Lib.hid hbl0
        go_wp2
        go_quiet (fail)
        go_wp2
        go_roundw
        case rel => exact ⟨k + 1, by omega, by go_num, below_drewN H.out _⟩
        case measure => simp [intOf]; omega
      · have hkN : k = xs.length := by omega
        subst hkN
        clear hbl0
        go_wp2_with fail
        refine (alive_any _).mono ?_
        rintro e w8 ⟨rfl, hb8⟩
        obtain ⟨a77, a77'⟩ := keep2 hb8 ⟨a64, a64'⟩ (by first | omega | (simp; omega) | simp)
        obtain ⟨a78, a78'⟩ := keep2 hb8 ⟨a65, a65'⟩ (by first | omega | (simp; omega) | simp)
        have o79 := o66.below hb8 (by first | omega | (simp; omega) | simp)
        have o80 := o67.below hb8 (by first | omega | (simp; omega) | simp)
        have o81 := o68.below hb8 (by first | omega | (simp; omega) | simp)
        have o82 := o69.below hb8 (by first | omega | (simp; omega) | simp)
        have o83 := o70.below hb8 (by first | omega | (simp; omega) | simp)
        have o84 := o71.below hb8 (by first | omega | (simp; omega) | simp)
        have o85 := o72.below hb8 (by first | omega | (simp; omega) | simp)
        have hz86 := hb8.size
        have B87 := B74.trans (hb8.mono (by first | omega | (simp; omega) | simp))
        clear hb8
        have z88 : w1.heap.size < w8.heap.size := by omega
        have z89 : w2.heap.size < w8.heap.size := by omega
        go_wp2
        go_ret
        exact ⟨rfl, B87⟩
  · have hnb' : namedB E xs ys = false := by simpa using hnb
    have HO := Lib.hid hnb'
    clear hnb hnb'
    go_wp2_with fail
    refine (implNamed_n E A1 c1 xs D1 d1 ys _ _ _ o4.ints (by first | omega | (simp; omega) | simp) hl5 _ _ o5.ints (by first | omega | (simp; omega) | simp) hl6 HO.out).mono ?_
    rintro e w2 ⟨A2, c2, rfl, ho2, hb2⟩
    have hp2 : Own w2 (w1.heap.size + 1) w2.heap.size A2 (([] : List Int)) := ho2.more (by simp) (Nat.le_refl _)
    obtain ⟨a8, a8'⟩ := keep2 hb2 ⟨a7, a7'⟩ (by first | omega | (simp; omega) | simp)
    have o9 := o4.below hb2 (by first | omega | (simp; omega) | simp)
    have o10 := o5.below hb2 (by first | omega | (simp; omega) | simp)
    have hz11 := hb2.size
    simp at hz11
    have B12 := B6.trans (hb2.mono (by first | omega | (simp; omega) | simp))
    clear hb2
    have z13 : w1.heap.size < w2.heap.size := by omega
    have x14 := new2 w2 (.int .i64 (0)) (.slice A2 (([] : List Int)).length c2) 25
    have q15 := keep2 ((Below.refl w2.heap.size w2).alloc (Nat.le_refl _) (.cells #[.int .i64 (0), .slice A2 (([] : List Int)).length c2] 25)) ⟨a8, a8'⟩ (by omega)
    have o16 := o9.alloc (by omega) (.cells #[.int .i64 (0), .slice A2 (([] : List Int)).length c2] 25)
    have o17 := o10.alloc (by omega) (.cells #[.int .i64 (0), .slice A2 (([] : List Int)).length c2] 25)
    have o18 := hp2.alloc (by omega) (.cells #[.int .i64 (0), .slice A2 (([] : List Int)).length c2] 25)
    have B19 := B12.alloc (by omega) (.cells #[.int .i64 (0), .slice A2 (([] : List Int)).length c2] 25)
    obtain ⟨a20, a20'⟩ := q15
    obtain ⟨a21, a21'⟩ := x14
    go_wp2_with fail
    refine (alive_any _).mono ?_
    rintro e w3 ⟨rfl, hb3⟩
    obtain ⟨a22, a22'⟩ := keep2 hb3 ⟨a20, a20'⟩ (by first | omega | (simp; omega) | simp)
    obtain ⟨a23, a23'⟩ := keep2 hb3 ⟨a21, a21'⟩ (by first | omega | (simp; omega) | simp)
    have o24 := o16.below hb3 (by first | omega | (simp; omega) | simp)
    have o25 := o17.below hb3 (by first | omega | (simp; omega) | simp)
    have o26 := o18.below hb3 (by first | omega | (simp; omega) | simp)
    have hz27 := hb3.size
    simp at hz27
    have B28 := B19.trans (hb3.mono (by first | omega | (simp; omega) | simp))
    clear hb3
    have z29 : w1.heap.size < w3.heap.size := by omega
    have z30 : w2.heap.size < w3.heap.size := by omega
    go_wp2
    go_ret
    exact ⟨rfl, B28⟩

set_option maxRecDepth 10000 in
set_option maxHeartbeats 400000 in
theorem fnEvenNamed_big (A0 : Option Addr) (c0 : Nat) (bs : List Int) (w : World) (hl : ¬ bs.length ≤ 1048576) (hm : bs.length ≤ 9223372036854775807) :
    Calls Try.prog 13 #[.slice A0 bs.length c0] w fun e w' => e = .returned (.bool true) ∧ Below w.heap.size w w' := by
  go_enter Try.func13, Try.ntmps13
  go_wp2
  go_ret
  exact ⟨rfl, Below.refl _ _⟩

theorem fnEvenNamed_all (A0 : Option Addr) (c0 : Nat) (bs : List Int) (w : World) (h0 : Bytes w w.heap.size A0 bs) (hm : bs.length ≤ 9223372036854775807) (hc0 : bs.length ≤ c0) :
    Calls Try.prog 13 #[.slice A0 bs.length c0] w fun e w' => e = .returned (.bool true) ∧ Below w.heap.size w w' := by
  by_cases hl : bs.length ≤ 1048576
  · exact fnEvenNamed_walk A0 c0 bs w h0 hl hc0
  · exact fnEvenNamed_big A0 c0 bs w hl hm

end Go.Proofs.Ytpoafafoncgenaa
