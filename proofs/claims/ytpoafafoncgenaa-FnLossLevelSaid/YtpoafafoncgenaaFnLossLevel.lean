/-
  The law of LossLevel returns true for every code, and writes nothing that was there. No condition.
-/
import Derived.Test.YtpoafafoncgenaaDrawE
import Derived.Test.YtpoafafoncgenaaLawLeaf
import Derived.Test.YtpoafafoncgenaaEvenLaw
import Derived.Test.YtpoafafoncgenaaSpecFns
import Derived.Deep.RegionHeld3
namespace Go.Proofs.Ytpoafafoncgenaa
open Go.RowKit

set_option maxRecDepth 10000 in
set_option maxHeartbeats 2000000 in
theorem fnLossLevel_walk (A0 : Option Addr) (c0 : Nat) (bs : List Int) (w : World) (h0 : Bytes w w.heap.size A0 bs) (hl : bs.length ≤ 1048576) (hc0 : bs.length ≤ c0) :
    Calls Try.prog 12 #[.slice A0 bs.length c0] w fun e w' => e = .returned (.bool true) ∧ Below w.heap.size w w' := by
  have hlm : bs.length ≤ 9223372036854775807 := by omega
  go_enter Try.func12, Try.ntmps12
  go_wp2_with fail
  refine (drawLossLevel_any A0 c0 bs _ h0 hlm hc0).mono ?_
  rintro e w1 ⟨E, A1, c1, xs, hx5, rfl, ho1, hb1⟩
  have hz1 := hb1.size
  have B2 := (Below.refl w.heap.size w).trans (hb1.mono (by first | omega | (simp; omega) | simp))
  clear hb1
  have x3 := new2 w1 (.int .i64 E) (.slice A1 xs.length c1) 25
  have o4 := ho1.alloc (by omega) (.cells #[.int .i64 E, .slice A1 xs.length c1] 25)
  have B5 := B2.alloc (by omega) (.cells #[.int .i64 E, .slice A1 xs.length c1] 25)
  have hl5 : xs.length ≤ 1152921504606846976 := by omega
  obtain ⟨a6, a6'⟩ := x3
  by_cases hok : caseOkB E xs = true
  · have hok' := hok
    have HO := Lib.hid hok'
    have hbd := caseOk_bd hok'
    have hsm := caseOk_small hok'
    have HP := Lib.hid (other_ok hok')
    have hlv := evenLv_bd HP.out
    have HR := Lib.hid (more_loss hok')
    have hca := Lib.hid (fun k hk => case_at' hok' k hk)
    have HAW := Lib.hid ((awardsB_iff _ _ _).2 (evenLo_aw hok'))
    have HLL : Hid ((evenLo E xs).length ≤ 1152921504606846976) := by show _ ≤ _; rw [evenLo_length]; omega
    have HN := Lib.hid (evenAw_length (xs.sum - E) xs)
    have hnz : (evenLv (xs.sum - E) xs != evenLv (xs.sum - E) xs) = false := by simp
    have HER := Lib.hid (even_loss_row (E := E) (xs := xs))
    have hll : (((evenAw (xs.sum - E) xs).length : Int) == (xs.length : Int)) = true := by rw [HN.out]; simp
    clear hok hok'
    go_wp2_with fail
    refine (implLossLevel_yes E A1 c1 xs _ _ _ o4.ints (by first | omega | (simp; omega) | simp) HO.out).mono ?_
    rintro e w2 ⟨rfl, hb2⟩
    obtain ⟨a7, a7'⟩ := keep2 hb2 ⟨a6, a6'⟩ (by first | omega | (simp; omega) | simp)
    have o8 := o4.below hb2 (by first | omega | (simp; omega) | simp)
    have hz9 := hb2.size
    simp at hz9
    have B10 := B5.trans (hb2.mono (by first | omega | (simp; omega) | simp))
    clear hb2
    have z11 : w1.heap.size < w2.heap.size := by omega
    go_wp2_with fail
    refine (specLossLevel_yes E A1 c1 xs _ _ _ o8.ints (by first | omega | (simp; omega) | simp) HO.out).mono ?_
    rintro e w3 ⟨rfl, hb3⟩
    obtain ⟨a12, a12'⟩ := keep2 hb3 ⟨a7, a7'⟩ (by first | omega | (simp; omega) | simp)
    have o13 := o8.below hb3 (by first | omega | (simp; omega) | simp)
    have hz14 := hb3.size
    have B15 := B10.trans (hb3.mono (by first | omega | (simp; omega) | simp))
    clear hb3
    have z16 : w1.heap.size < w3.heap.size := by omega
    go_wp2_with fail
    have hWW : w.heap.size ≤ w3.heap.size := by omega
    have g_c : w1.heap.size < w3.heap.size := by omega
    have g_kc : w1.heap.size ≤ w3.heap.size := by omega
    have hS0 : (fun w' : World => w'.cell? ⟨w1.heap.size, 0, none⟩ = some (.int .i64 E) ∧ w'.cell? ⟨w1.heap.size, 1, none⟩ = some (.slice A1 xs.length c1) ∧ Ints w' (w.heap.size) (w1.heap.size) (A1) (xs) ∧ w3.heap.size ≤ w'.heap.size ∧ Below w.heap.size w w') w3.drew := ⟨a12, a12', o13.ints, Nat.le_refl _, B15.drew⟩
    first
      | (go_region_held3 (fun w' => w'.cell? ⟨w1.heap.size, 0, none⟩ = some (.int .i64 E) ∧ w'.cell? ⟨w1.heap.size, 1, none⟩ = some (.slice A1 xs.length c1) ∧ Ints w' (w.heap.size) (w1.heap.size) (A1) (xs) ∧ w3.heap.size ≤ w'.heap.size ∧ Below w.heap.size w w') (first | assumption | exact hS0 | exact HS9 | go_keep)
        (first
          | (go_at_call 39
             obtain ⟨y0, y1, kc, zz, BB⟩ := (by assumption : (fun w' : World => w'.cell? ⟨w1.heap.size, 0, none⟩ = some (.int .i64 E) ∧ w'.cell? ⟨w1.heap.size, 1, none⟩ = some (.slice A1 xs.length c1) ∧ Ints w' (w.heap.size) (w1.heap.size) (A1) (xs) ∧ w3.heap.size ≤ w'.heap.size ∧ Below w.heap.size w w') _)
             refine (implEvenLosses_yes E A1 c1 xs _ _ _ kc (by omega) HO.out).mono ?_
             rintro e w9 ⟨Ab, cb, rfl, hob, hb9⟩
             have HS9 : (fun w' => w'.cell? ⟨w1.heap.size, 0, none⟩ = some (.int .i64 E) ∧ w'.cell? ⟨w1.heap.size, 1, none⟩ = some (.slice A1 xs.length c1) ∧ Ints w' (w.heap.size) (w1.heap.size) (A1) (xs) ∧ w3.heap.size ≤ w'.heap.size ∧ Below w.heap.size w w') w9 := ⟨(keep2 hb9 ⟨y0, y1⟩ (by omega)).1, (keep2 hb9 ⟨y0, y1⟩ (by omega)).2, kc.below hb9 (by omega), Nat.le_trans zz hb9.size, BB.trans (hb9.mono (by omega))⟩)
          | (go_at_call 29
             obtain ⟨y0, y1, kc, zz, BB⟩ := (by assumption : (fun w' : World => w'.cell? ⟨w1.heap.size, 0, none⟩ = some (.int .i64 E) ∧ w'.cell? ⟨w1.heap.size, 1, none⟩ = some (.slice A1 xs.length c1) ∧ Ints w' (w.heap.size) (w1.heap.size) (A1) (xs) ∧ w3.heap.size ≤ w'.heap.size ∧ Below w.heap.size w w') _)
             refine (implLossesOf_yes E A1 c1 xs Ab cb (evenLo E xs) _ _ _ kc (by omega) (by omega) _ _ hob.ints (Nat.le_refl _) HLL.out HAW.out).mono ?_
             rintro e w9 ⟨Ac, cc, rfl, hoc, hb9⟩
             have HS9 : (fun w' => w'.cell? ⟨w1.heap.size, 0, none⟩ = some (.int .i64 E) ∧ w'.cell? ⟨w1.heap.size, 1, none⟩ = some (.slice A1 xs.length c1) ∧ Ints w' (w.heap.size) (w1.heap.size) (A1) (xs) ∧ w3.heap.size ≤ w'.heap.size ∧ Below w.heap.size w w') w9 := ⟨(keep2 hb9 ⟨y0, y1⟩ (by omega)).1, (keep2 hb9 ⟨y0, y1⟩ (by omega)).2, kc.below hb9 (by omega), Nat.le_trans zz hb9.size, BB.trans (hb9.mono (by omega))⟩)))
      | fail
    rw [HER.out] at hoc ⊢
    obtain ⟨s0, s1, sk, sz, sB⟩ := HS9
    obtain ⟨V, hV⟩ : ∃ V, V = evenLv (xs.sum - E) xs := ⟨_, rfl⟩
    have HAT : Hid (∀ k (h : k < xs.length), (evenAw (xs.sum - E) xs)[k]'(by rw [evenAw_length]; exact h) = min (48 * xs[k]) V) := fun k h => by rw [hV]; exact evenAw_at _ xs k h
    rw [← hV] at hlv HR hnz
    rw [← hV]
    clear hV
    go_wp2
    go_loopw [6] (fun i wr => ∃ k : Nat, k ≤ (evenAw (xs.sum - E) xs).length ∧ i = .int .i64 k ∧ Below w9.heap.size w9 wr) (fun i _ => (evenAw (xs.sum - E) xs).length - (intOf i).toNat)
    case atStart => exact ⟨0, Nat.zero_le _, rfl, Below.refl _ _⟩
    case round =>
      obtain ⟨k, hk, rfl, hbl⟩ := hrel
      obtain ⟨wo, rfl⟩ : ∃ x, x = wr := ⟨_, rfl⟩
      obtain ⟨v0, v1⟩ := keep2 hbl ⟨s0, s1⟩ (by omega)
      have vk := sk.below hbl (by omega)
      have vq := hoc.ints.below hbl (Nat.le_refl _)
      have vz := hbl.size
      have vB := sB.trans (hbl.mono (by omega))
      by_cases hlt : k < (evenAw (xs.sum - E) xs).length
      · obtain ⟨b0_, o0_, rfl, _, hbh0, hc0⟩ := vq.at_ hlt
        have hkx : k < xs.length := by rw [← HN.out]; exact hlt
        obtain ⟨b1_, o1_, rfl, _, hbh1, hc1⟩ := vk.at_ hkx
        have hx := hca.out k hkx
        have hr := HAT.out k hkx
        generalize (evenAw (xs.sum - E) xs)[k]'hlt = rk at hc0 hr
        generalize xs[k] = x at hc1 hr hx
        have hk0 : (0 : Int) ≤ (k : Int) := by omega
        have hk1 : (k : Int) < ((evenAw (xs.sum - E) xs).length : Int) := by omega
        have hk2 : (k : Int) < (xs.length : Int) := by omega
        have hw48 : IntKind.i64.wrap (48 * x) = 48 * x := IntWalk.i64_in _ (by omega)
        have H := Lib.hid hbl
        clear hbl v0 vB
        have hd1 : (rk != min (48 * x) V) = false := by rw [hr]; simp
        go_wp2
        go_quiet (fail)
        go_wp2
        go_roundw
        case rel => exact ⟨k + 1, by omega, by go_num, below_drewN H.out _⟩
        case measure => simp [intOf]; omega
      · have hkN : k = (evenAw (xs.sum - E) xs).length := by omega
        subst hkN
        clear hbl
        have hw1 : IntKind.i64.wrap (E + 1) = E + 1 := IntWalk.i64_in _ (by omega)
        go_wp2_with fail
        refine (implLossLevel_any (E + 1) A1 c1 xs _ _ _ vk (by omega) hl5).mono ?_
        rintro e wz ⟨rfl, hbz⟩
        obtain ⟨x0, x1⟩ := keep2 hbz ⟨v0, v1⟩ (by omega)
        have Bz := vB.trans (hbz.mono (by omega))
        rcases HR.out with hr | hr
        · rw [hr]
          go_wp2
          go_ret
          exact ⟨rfl, Bz⟩
        · generalize lossLvl (E + 1) xs = m at hr
          go_wp2
          go_ret
          exact ⟨rfl, Bz⟩
  · have hok' : caseOkB E xs = false := by simpa using hok
    have HO := Lib.hid hok'
    clear hok hok'
    go_wp2_with fail
    refine (implLossLevel_no E A1 c1 xs _ _ _ o4.ints (by first | omega | (simp; omega) | simp) hl5 HO.out).mono ?_
    rintro e w2 ⟨rfl, hb2⟩
    obtain ⟨a7, a7'⟩ := keep2 hb2 ⟨a6, a6'⟩ (by first | omega | (simp; omega) | simp)
    have o8 := o4.below hb2 (by first | omega | (simp; omega) | simp)
    have hz9 := hb2.size
    simp at hz9
    have B10 := B5.trans (hb2.mono (by first | omega | (simp; omega) | simp))
    clear hb2
    have z11 : w1.heap.size < w2.heap.size := by omega
    go_wp2_with fail
    refine (specLossLevel_no E A1 c1 xs _ _ _ o8.ints (by first | omega | (simp; omega) | simp) hl5 HO.out).mono ?_
    rintro e w3 ⟨rfl, hb3⟩
    obtain ⟨a12, a12'⟩ := keep2 hb3 ⟨a7, a7'⟩ (by first | omega | (simp; omega) | simp)
    have o13 := o8.below hb3 (by first | omega | (simp; omega) | simp)
    have hz14 := hb3.size
    have B15 := B10.trans (hb3.mono (by first | omega | (simp; omega) | simp))
    clear hb3
    have z16 : w1.heap.size < w3.heap.size := by omega
    go_wp2_with fail
    refine (implCaseOk_no (E) (A1) c1 xs _ _ _ o13.ints (by first | omega | (simp; omega) | simp) (by first | omega | simp) HO.out).mono ?_
    rintro e w4 ⟨rfl, hb4⟩
    obtain ⟨a17, a17'⟩ := keep2 hb4 ⟨a12, a12'⟩ (by first | omega | (simp; omega) | simp)
    have o18 := o13.below hb4 (by first | omega | (simp; omega) | simp)
    have hz19 := hb4.size
    have B20 := B15.trans (hb4.mono (by first | omega | (simp; omega) | simp))
    clear hb4
    have z21 : w1.heap.size < w4.heap.size := by omega
    go_wp2_with fail
    refine (alive_any _).mono ?_
    rintro e w5 ⟨rfl, hb5⟩
    obtain ⟨a22, a22'⟩ := keep2 hb5 ⟨a17, a17'⟩ (by first | omega | (simp; omega) | simp)
    have o23 := o18.below hb5 (by first | omega | (simp; omega) | simp)
    have hz24 := hb5.size
    have B25 := B20.trans (hb5.mono (by first | omega | (simp; omega) | simp))
    clear hb5
    have z26 : w1.heap.size < w5.heap.size := by omega
    go_wp2
    go_ret
    exact ⟨rfl, B25⟩

set_option maxRecDepth 10000 in
set_option maxHeartbeats 400000 in
theorem fnLossLevel_big (A0 : Option Addr) (c0 : Nat) (bs : List Int) (w : World) (hl : ¬ bs.length ≤ 1048576) (hm : bs.length ≤ 9223372036854775807) :
    Calls Try.prog 12 #[.slice A0 bs.length c0] w fun e w' => e = .returned (.bool true) ∧ Below w.heap.size w w' := by
  go_enter Try.func12, Try.ntmps12
  go_wp2
  go_ret
  exact ⟨rfl, Below.refl _ _⟩

theorem fnLossLevel_all (A0 : Option Addr) (c0 : Nat) (bs : List Int) (w : World) (h0 : Bytes w w.heap.size A0 bs) (hm : bs.length ≤ 9223372036854775807) (hc0 : bs.length ≤ c0) :
    Calls Try.prog 12 #[.slice A0 bs.length c0] w fun e w' => e = .returned (.bool true) ∧ Below w.heap.size w w' := by
  by_cases hl : bs.length ≤ 1048576
  · exact fnLossLevel_walk A0 c0 bs w h0 hl hc0
  · exact fnLossLevel_big A0 c0 bs w hl hm

end Go.Proofs.Ytpoafafoncgenaa
