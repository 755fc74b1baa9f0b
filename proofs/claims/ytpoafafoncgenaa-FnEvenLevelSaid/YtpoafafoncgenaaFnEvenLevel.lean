/-
  The law of EvenLevel returns true for every code, and writes nothing that was there. No condition.
-/
import Derived.Test.YtpoafafoncgenaaDrawE
import Derived.Test.YtpoafafoncgenaaLawLeaf
import Derived.Test.YtpoafafoncgenaaEvenLaw
import Derived.Test.YtpoafafoncgenaaSpecFns
import Derived.Deep.RegionHeld3
namespace Go.Proofs.Ytpoafafoncgenaa
open Go.RowKit

set_option maxRecDepth 10000 in
set_option maxHeartbeats 2000000 in
theorem fnEvenLevel_walk (A0 : Option Addr) (c0 : Nat) (bs : List Int) (w : World) (h0 : Bytes w w.heap.size A0 bs) (hl : bs.length ≤ 1048576) (hc0 : bs.length ≤ c0) :
    Calls Try.prog 8 #[.slice A0 bs.length c0] w fun e w' => e = .returned (.bool true) ∧ Below w.heap.size w w' := by
  have hlm : bs.length ≤ 9223372036854775807 := by omega
  go_enter Try.func8, Try.ntmps8
  go_wp2_with fail
  refine (drawEvenLevel_any A0 c0 bs _ h0 hlm hc0).mono ?_
  rintro e w1 ⟨E, A1, c1, xs, hx5, rfl, ho1, hb1⟩
  have hz1 := hb1.size
  have B2 := (Below.refl w.heap.size w).trans (hb1.mono (by first | omega | (simp; omega) | simp))
  clear hb1
  have x3 := new2 w1 (.int .i64 E) (.slice A1 xs.length c1) 25
  have o4 := ho1.alloc (by omega) (.cells #[.int .i64 E, .slice A1 xs.length c1] 25)
  have B5 := B2.alloc (by omega) (.cells #[.int .i64 E, .slice A1 xs.length c1] 25)
  have hl5 : xs.length ≤ 1152921504606846976 := by omega
  obtain ⟨a6, a6'⟩ := x3
  by_cases hok : caseOkB E xs = true
  · have hok' := hok
    have HO := Lib.hid hok'
    have hbd := caseOk_bd hok'
    have hsm := caseOk_small hok'
    have HP := Lib.hid (other_ok hok')
    have hlv := evenLv_bd hok'
    have HM := Lib.hid (even_most hok')
    have HR := Lib.hid (more_level hok')
    have hrg := Lib.hid (even_rg hok')
    have HN := Lib.hid (evenAw_length E xs)
    have hn0 : 0 < (evenAw E xs).length := by rw [evenAw_length]; omega
    have hn5 : (evenAw E xs).length ≤ 5 := by rw [evenAw_length]; omega
    have hnz : (evenLv E xs != evenLv E xs) = false := by simp
    clear hok hok'
    go_wp2_with fail
    refine (implEvenLevel_yes E A1 c1 xs _ _ _ o4.ints (by first | omega | (simp; omega) | simp) HO.out).mono ?_
    rintro e w2 ⟨rfl, hb2⟩
    obtain ⟨a7, a7'⟩ := keep2 hb2 ⟨a6, a6'⟩ (by first | omega | (simp; omega) | simp)
    have o8 := o4.below hb2 (by first | omega | (simp; omega) | simp)
    have hz9 := hb2.size
    simp at hz9
    have B10 := B5.trans (hb2.mono (by first | omega | (simp; omega) | simp))
    clear hb2
    have z11 : w1.heap.size < w2.heap.size := by omega
    go_wp2_with fail
    refine (specEvenLevel_yes E A1 c1 xs _ _ _ o8.ints (by first | omega | (simp; omega) | simp) HO.out).mono ?_
    rintro e w3 ⟨rfl, hb3⟩
    obtain ⟨a12, a12'⟩ := keep2 hb3 ⟨a7, a7'⟩ (by first | omega | (simp; omega) | simp)
    have o13 := o8.below hb3 (by first | omega | (simp; omega) | simp)
    have hz14 := hb3.size
    have B15 := B10.trans (hb3.mono (by first | omega | (simp; omega) | simp))
    clear hb3
    have z16 : w1.heap.size < w3.heap.size := by omega
    go_wp2_with fail
    refine (implEvenAwards_yes E A1 c1 xs _ _ _ o13.ints (by first | omega | (simp; omega) | simp) HO.out).mono ?_
    rintro e w4 ⟨A4, c4, rfl, ho4, hb4⟩
    obtain ⟨a17, a17'⟩ := keep2 hb4 ⟨a12, a12'⟩ (by first | omega | (simp; omega) | simp)
    have o18 := o13.below hb4 (by first | omega | (simp; omega) | simp)
    have hz19 := hb4.size
    have B20 := B15.trans (hb4.mono (by first | omega | (simp; omega) | simp))
    clear hb4
    have z21 : w1.heap.size < w4.heap.size := by omega
    obtain ⟨V, hV⟩ : ∃ V, V = evenLv E xs := ⟨_, rfl⟩
    rw [← hV] at hlv HM HR hrg hnz
    rw [← hV]
    clear hV
    go_wp2
    go_loopw [5, 7] (fun m i wr => ∃ k : Nat, k ≤ (evenAw E xs).length ∧ i = .int .i64 k ∧ m = .int .i64 (mostTo (evenAw E xs) k) ∧ Below w4.heap.size w4 wr) (fun _ i _ => (evenAw E xs).length - (intOf i).toNat)
    case atStart => exact ⟨0, Nat.zero_le _, rfl, rfl, Below.refl _ _⟩
    case round =>
      obtain ⟨k, hk, rfl, rfl, hbl⟩ := hrel
      obtain ⟨w5, rfl⟩ : ∃ x, x = wr := ⟨_, rfl⟩
      have hbl0 := hbl
      obtain ⟨a22, a22'⟩ := keep2 hbl ⟨a17, a17'⟩ (by first | omega | (simp; omega) | simp)
      have o23 := o18.below hbl (by first | omega | (simp; omega) | simp)
      have o24 := ho4.below hbl (by first | omega | (simp; omega) | simp)
      have hz25 := hbl.size
      have B26 := B20.trans (hbl.mono (by first | omega | (simp; omega) | simp))
      clear hbl
      have z27 : w1.heap.size < w5.heap.size := by omega
      by_cases hlt : k < (evenAw E xs).length
      · obtain ⟨b1_, o1_, rfl, _, hbh1, hc1⟩ := o24.ints.at_ hlt
        have HS : Hid (mostTo (evenAw E xs) (k + 1) = max (mostTo (evenAw E xs) k) ((evenAw E xs)[k])) := by show _ = _; simp only [mostTo]; rw [getD_of_lt _ k hlt]
        have H := Lib.hid hbl0
        clear hbl0
        generalize mostTo (evenAw E xs) k = mk at HS
        generalize (evenAw E xs)[k] = rk at hc1 HS
        go_wp2
        go_roundw
        case rel => exact ⟨k + 1, by omega, by go_num, by rw [HS.out], H.out⟩
        case measure => simp [intOf] <;> omega
      · obtain rfl : k = (evenAw E xs).length := by omega
        clear hbl0
        rw [HM.out]
        have hw1 : IntKind.i64.wrap (E + 1) = E + 1 := IntWalk.i64_in _ (by omega)
        go_wp2_with fail
        refine (implEvenLevel_any (E + 1) A1 c1 xs _ _ _ o23.ints (by first | omega | (simp; omega) | simp) hl5).mono ?_
        rintro e w6 ⟨rfl, hb6⟩
        obtain ⟨a28, a28'⟩ := keep2 hb6 ⟨a22, a22'⟩ (by first | omega | (simp; omega) | simp)
        have o29 := o23.below hb6 (by first | omega | (simp; omega) | simp)
        have o30 := o24.below hb6 (by first | omega | (simp; omega) | simp)
        have hz31 := hb6.size
        have B32 := B26.trans (hb6.mono (by first | omega | (simp; omega) | simp))
        clear hb6
        have z33 : w1.heap.size < w6.heap.size := by omega
        have hVV : (V == V) = true := by simp
        rcases HR.out with hr | hr
        · rw [hr]
          go_wp2
          go_ret
          exact ⟨rfl, B32⟩
        · generalize evenLvl (E + 1) xs = m at hr
          go_wp2
          go_ret
          exact ⟨rfl, B32⟩
  · have hok' : caseOkB E xs = false := by simpa using hok
    have HO := Lib.hid hok'
    clear hok hok'
    go_wp2_with fail
    refine (implEvenLevel_no E A1 c1 xs _ _ _ o4.ints (by first | omega | (simp; omega) | simp) hl5 HO.out).mono ?_
    rintro e w2 ⟨rfl, hb2⟩
    obtain ⟨a7, a7'⟩ := keep2 hb2 ⟨a6, a6'⟩ (by first | omega | (simp; omega) | simp)
    have o8 := o4.below hb2 (by first | omega | (simp; omega) | simp)
    have hz9 := hb2.size
    simp at hz9
    have B10 := B5.trans (hb2.mono (by first | omega | (simp; omega) | simp))
    clear hb2
    have z11 : w1.heap.size < w2.heap.size := by omega
    go_wp2_with fail
    refine (specEvenLevel_no E A1 c1 xs _ _ _ o8.ints (by first | omega | (simp; omega) | simp) hl5 HO.out).mono ?_
    rintro e w3 ⟨rfl, hb3⟩
    obtain ⟨a12, a12'⟩ := keep2 hb3 ⟨a7, a7'⟩ (by first | omega | (simp; omega) | simp)
    have o13 := o8.below hb3 (by first | omega | (simp; omega) | simp)
    have hz14 := hb3.size
    have B15 := B10.trans (hb3.mono (by first | omega | (simp; omega) | simp))
    clear hb3
    have z16 : w1.heap.size < w3.heap.size := by omega
    go_wp2_with fail
    refine (implCaseOk_no (E) (A1) c1 xs _ _ _ o13.ints (by first | omega | (simp; omega) | simp) (by first | omega | simp) HO.out).mono ?_
    rintro e w4 ⟨rfl, hb4⟩
    obtain ⟨a17, a17'⟩ := keep2 hb4 ⟨a12, a12'⟩ (by first | omega | (simp; omega) | simp)
    have o18 := o13.below hb4 (by first | omega | (simp; omega) | simp)
    have hz19 := hb4.size
    have B20 := B15.trans (hb4.mono (by first | omega | (simp; omega) | simp))
    clear hb4
    have z21 : w1.heap.size < w4.heap.size := by omega
    go_wp2_with fail
    refine (alive_any _).mono ?_
    rintro e w5 ⟨rfl, hb5⟩
    obtain ⟨a22, a22'⟩ := keep2 hb5 ⟨a17, a17'⟩ (by first | omega | (simp; omega) | simp)
    have o23 := o18.below hb5 (by first | omega | (simp; omega) | simp)
    have hz24 := hb5.size
    have B25 := B20.trans (hb5.mono (by first | omega | (simp; omega) | simp))
    clear hb5
    have z26 : w1.heap.size < w5.heap.size := by omega
    go_wp2
    go_ret
    exact ⟨rfl, B25⟩

set_option maxRecDepth 10000 in
set_option maxHeartbeats 400000 in
theorem fnEvenLevel_big (A0 : Option Addr) (c0 : Nat) (bs : List Int) (w : World) (hl : ¬ bs.length ≤ 1048576) (hm : bs.length ≤ 9223372036854775807) :
    Calls Try.prog 8 #[.slice A0 bs.length c0] w fun e w' => e = .returned (.bool true) ∧ Below w.heap.size w w' := by
  go_enter Try.func8, Try.ntmps8
  go_wp2
  go_ret
  exact ⟨rfl, Below.refl _ _⟩

theorem fnEvenLevel_all (A0 : Option Addr) (c0 : Nat) (bs : List Int) (w : World) (h0 : Bytes w w.heap.size A0 bs) (hm : bs.length ≤ 9223372036854775807) (hc0 : bs.length ≤ c0) :
    Calls Try.prog 8 #[.slice A0 bs.length c0] w fun e w' => e = .returned (.bool true) ∧ Below w.heap.size w w' := by
  by_cases hl : bs.length ≤ 1048576
  · exact fnEvenLevel_walk A0 c0 bs w h0 hl hc0
  · exact fnEvenLevel_big A0 c0 bs w hl hm

end Go.Proofs.Ytpoafafoncgenaa
