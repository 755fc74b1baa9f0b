/-
  Even rows of the given package: the row and true, or none and false; it makes new memory only. No condition but a length that fits.
-/
import Derived.Test.YtjoalilapbleiaaSpecEven
import Derived.Test.YtjoalilapbleiaaEvenRow
namespace Go.Proofs.Ytjoalilapbleiaa
open Go.RowKit

theorem ret_none {w w' : World} {xs : List Int} {e : Int} {A : Option Addr} {c : Nat} (hB : evenB xs e = false) (hb : Below w.heap.size w w') : RetIntsB w (evenXs xs e) (evenB xs e) (.returned (.tuple #[.slice A 0 c, .bool false])) w' := by
  have h : evenXs xs e = [] := by simp [evenXs, hB]
  rw [h, hB]
  exact ⟨A, c, rfl, fun h0 => absurd h0 (by simp), hb⟩
theorem evenB_part {xs : List Int} {e : Int} (h : partB xs = false) : evenB xs e = false := by simp [evenB, h]
theorem evenB_rg {xs : List Int} {e : Int} (h : ¬ (0 ≤ e ∧ e ≤ xs.sum)) : evenB xs e = false := by simp only [evenB, decide_eq_false h]; simp
theorem evenB_ok {xs : List Int} {e : Int} (h : evenOk xs e = false) : evenB xs e = false := by simp [evenB, h]

set_option maxRecDepth 10000 in
set_option maxHeartbeats 1000000 in
theorem specEvenRow_any (A : Option Addr) (c : Nat) (xs : List Int) (e : Int) (w : World) (lo hi : Nat) (h : Ints w lo hi A xs) (hh : hi ≤ w.heap.size) (hl : xs.length ≤ 1152921504606846976) :
    Calls Try.prog 29 #[.slice A xs.length c, .int .i64 e] w (RetIntsB w (evenXs xs e) (evenB xs e)) := by
  go_enter Try.func29, Try.ntmps29
  go_wp2
  go_loop [6] (fun i => ∃ k : Nat, k ≤ xs.length ∧ i = .int .i64 k ∧ PUpto xs k) (fun i => xs.length - (intOf i).toNat)
  case atStart => exact ⟨0, Nat.zero_le _, rfl, PUpto.zero _⟩
  case round =>
    obtain ⟨k, hk, rfl, hu⟩ := hrel
    by_cases hlt : k < xs.length
    · obtain ⟨b, o, rfl, _, hb, hc⟩ := h.at_ hlt
      by_cases hx : 0 ≤ xs[k] ∧ xs[k] ≤ 576
      · have hu' := hu.succ hlt hx
        have hX := Lib.hid hx
        clear hu hx
        go_wp2_with (go_at_call 51; refine (l1In_yes _ _ _ _ hX.out).mono ?_; rintro e w' ⟨rfl, rfl⟩)
        go_round
        case rel => exact ⟨k + 1, by omega, by go_num, hu'⟩
        case measure => simp [intOf]; omega
      · have hbad := Lib.hid (evenB_part (e := e) (partB_bad xs k hlt hx))
        have hX := Lib.hid hx
        clear hx
        go_wp2_with (go_at_call 51; refine (l1In_no _ _ _ _ hX.out).mono ?_; rintro e w' ⟨rfl, rfl⟩)
        go_ret2
        exact ret_none hbad.out ((Below.refl _ _).alloc (Nat.le_refl _) _)
    · obtain rfl : k = xs.length := by omega
      have hend := partB_end xs hu
      by_cases hlen : 1 ≤ xs.length ∧ xs.length ≤ 4
      · have hp : partB xs = true := by rw [hend]; simpa using hlen
        have hs := part_small hp
        have HP := Lib.hid hp
        have hX : Hid ((1 : Int) ≤ (xs.length : Int) ∧ (xs.length : Int) ≤ 4) := ⟨by omega, by omega⟩
        clear hu hlen hend hp
        by_cases he : 0 ≤ e ∧ e ≤ xs.sum
        · have hE := Lib.hid he
          clear he
          go_wp2_with fail
          refine (l1In_yes _ _ _ _ hX.out).mono ?_
          rintro en w' ⟨rfl, rfl⟩
          go_wp2_with fail
          refine (l1Sum_any A c xs _ lo hi h hs).mono ?_
          rintro en w' ⟨rfl, rfl⟩
          go_wp2_with fail
          refine (l1In_yes _ _ _ _ hE.out).mono ?_
          rintro en w' ⟨rfl, rfl⟩
          go_wp2_with fail
          refine (l2Even_any A c xs e _ lo hi h hh HP.out hE.out.1 hE.out.2).mono ?_
          rintro en w1 ⟨A1, c1, rfl, ho1, hb1⟩
          have z1 := hb1.size
          by_cases hk0 : evenOk xs e = true
          · have hB : evenB xs e = true := (evenB_iff xs e).2 ⟨HP.out, hE.out, hk0⟩
            have H := Lib.hid (And.intro ho1 hb1)
            have HB := Lib.hid hB
            have hXs : Hid (evenXs xs e = evenOf xs e) := by show _ = _; simp [evenXs, hB]
            rw [hk0]
            clear ho1 hb1 hB hk0
            go_wp2
            go_ret2
            rw [HB.out, hXs.out]
            exact ⟨A1, c1, rfl, H.out.1, H.out.2⟩
          · have hk1 : evenOk xs e = false := by simpa using hk0
            have HB := Lib.hid (evenB_ok hk1)
            have H := Lib.hid (hb1.alloc z1 (.cells #[] 3))
            rw [hk1]
            clear ho1 hb1 hk0 hk1
            go_wp2
            go_ret2
            exact ret_none HB.out H.out
        · have HB := Lib.hid (evenB_rg he)
          have hE := Lib.hid he
          clear he
          go_wp2_with fail
          refine (l1In_yes _ _ _ _ hX.out).mono ?_
          rintro en w' ⟨rfl, rfl⟩
          go_wp2_with fail
          refine (l1Sum_any A c xs _ lo hi h hs).mono ?_
          rintro en w' ⟨rfl, rfl⟩
          go_wp2_with fail
          refine (l1In_no _ _ _ _ hE.out).mono ?_
          rintro en w' ⟨rfl, rfl⟩
          go_wp2
          go_ret2
          exact ret_none HB.out ((Below.refl _ _).alloc (Nat.le_refl _) _)
      · have hp : partB xs = false := by rw [hend]; simpa using hlen
        have HB := Lib.hid (evenB_part (e := e) hp)
        have hX : Hid (¬ ((1 : Int) ≤ (xs.length : Int) ∧ (xs.length : Int) ≤ 4)) := by intro h'; exact hlen ⟨by omega, by omega⟩
        clear hu hlen hend hp
        go_wp2_with fail
        refine (l1In_no _ _ _ _ hX.out).mono ?_
        rintro en w' ⟨rfl, rfl⟩
        go_wp2
        go_ret2
        exact ret_none HB.out ((Below.refl _ _).alloc (Nat.le_refl _) _)

end Go.Proofs.Ytjoalilapbleiaa
