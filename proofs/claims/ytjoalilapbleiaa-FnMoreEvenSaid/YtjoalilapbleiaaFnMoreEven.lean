/-
  The law of rows that are as even returns true for every code, and writes nothing that was there. No condition.
-/
import Derived.Test.YtjoalilapbleiaaMore3
import Derived.Test.YtjoalilapbleiaaLeast
import Derived.Deep.RegionHeld3
namespace Go.Proofs.Ytjoalilapbleiaa
open Go.RowKit

set_option maxRecDepth 10000 in
set_option maxHeartbeats 2000000 in
theorem fnMoreEven_walk (A0 : Option Addr) (c0 : Nat) (bs : List Int) (w : World) (h0 : Bytes w w.heap.size A0 bs) (hl : bs.length ≤ 1048576) (hc0 : bs.length ≤ c0) :
    Calls Try.prog 7 #[.slice A0 bs.length c0] w fun e w' => e = .returned (.bool true) ∧ Below w.heap.size w w' := by
  have hlm : bs.length ≤ 9223372036854775807 := by omega
  go_enter Try.func7, Try.ntmps7
  go_wp2_with fail
  refine (drawMoreEven_any A0 c0 bs _ h0 hlm hc0).mono ?_
  rintro e w1 ⟨A1, c1, D1, d1, xs, ys, hx5, hy5, hxb, hyb, rfl, ho1, hq1, hb1⟩
  have hz1 := hb1.size
  have B2 := (Below.refl w.heap.size w).trans (hb1.mono (by first | omega | (simp; omega) | simp))
  clear hb1
  have HX := Lib.hid (drawn_small hx5 hxb)
  have HY := Lib.hid (drawn_small hy5 hyb)
  have hsb := sum_five hy5 hyb
  obtain ⟨m, hm⟩ : ∃ m, moreB xs ys = m := ⟨_, rfl⟩
  have HM := Lib.hid hm
  clear hm hxb hyb
  have hmm : (m != m) = false := by simp
  go_wp2_with fail
  refine (implMoreEven_is A1 c1 xs D1 d1 ys _ _ _ ho1.ints (by first | omega | (simp; omega) | simp) _ _ hq1.ints (by first | omega | (simp; omega) | simp) HX.out HY.out HM.out).mono ?_
  rintro e w2 ⟨rfl, hb2⟩
  have o3 := ho1.below hb2 (by first | omega | (simp; omega) | simp)
  have o4 := hq1.below hb2 (by first | omega | (simp; omega) | simp)
  have hz5 := hb2.size
  have B6 := B2.trans (hb2.mono (by first | omega | (simp; omega) | simp))
  clear hb2
  go_wp2_with fail
  refine (specMoreEven_is A1 c1 xs D1 d1 ys _ _ _ o3.ints (by first | omega | (simp; omega) | simp) _ _ o4.ints (by first | omega | (simp; omega) | simp) HX.out HY.out HM.out).mono ?_
  rintro e w3 ⟨rfl, hb3⟩
  have o7 := o3.below hb3 (by first | omega | (simp; omega) | simp)
  have o8 := o4.below hb3 (by first | omega | (simp; omega) | simp)
  have hz9 := hb3.size
  have B10 := B6.trans (hb3.mono (by first | omega | (simp; omega) | simp))
  clear hb3
  by_cases hn : 1 ≤ ys.length ∧ ys.length ≤ 4
  · obtain ⟨hn1, hn4⟩ := hn
    have hz1 : ((ys.length : Int) == 0) = false := beq_eq_false_iff_ne.2 (by omega)
    have hz2 : ((ys.length : Int) = 0) = False := by simp; intro h; rw [h] at hn1; simp at hn1
    have qq := quo_bd (s := ys.sum) (n := (ys.length : Int)) hsb
    obtain ⟨M, hM⟩ : ∃ M, ys.sum.tdiv (ys.length : Int) = M := ⟨_, rfl⟩
    rw [hM] at qq
    have hwM : IntKind.i64.wrap M = M := IntWalk.i64_in _ (by omega)
    obtain ⟨i0, hi0, hz0', hz1', hz2'⟩ := info_parts info_int
    have HF : Hid ((List.replicate ys.length M).length = ys.length) := by show _ = _; simp
    have hW0 : w.heap.size ≤ w3.heap.size := by omega
    have kq := o8.ints
    have hqh : w1.heap.size ≤ w3.heap.size := by omega
    have HBB := Lib.hid B10
    have hB0 : (w3.alloc (.cells #[] 3)).ownsRow w3.heap.size 3 1 (.slice (some ⟨w3.heap.size, 0, none⟩) 0 0) ((List.replicate ys.length M).take 0).length (ints ((List.replicate ys.length M).take 0)) := World.ownsRow_made w3 #[] 0 (Nat.le_refl _) (by unfold maxLen; omega) rfl
    have hb0 := (Below.refl w3.heap.size w3).alloc (Nat.le_refl _) (.cells #[] 3)
    clear o7 o8 B10
    go_wp2
    go_loopw [6, 7] (fun v i wr => ∃ k : Nat, k ≤ ys.length ∧ i = .int .i64 k ∧ wr.ownsRow w3.heap.size 3 1 v ((List.replicate ys.length M).take k).length (ints ((List.replicate ys.length M).take k)) ∧ Below w3.heap.size w3 wr) (fun _ i _ => ys.length - (intOf i).toNat)
    case atStart => exact ⟨0, Nat.zero_le _, rfl, hB0, hb0⟩
    case round =>
      obtain ⟨k, hk, rfl, hown, hbel⟩ := hrel
      clear hB0 hb0
      obtain ⟨wo, rfl⟩ : ∃ x, x = wr := ⟨_, rfl⟩
      have hbs := hbel.size
      by_cases hlt : k < ys.length
      · have ky := kq.below hbel hqh
        have hlen : ((List.replicate ys.length M).take k).length = k := by rw [List.length_take, HF.out]; omega
        rw [hlen] at hown
        clear hlen
        go_wp2_with fail
        refine (lsumOf_any D1 d1 ys _ _ _ ky HY.out).mono ?_
        rintro e w' ⟨rfl, rfl⟩
        have hA := hown.alloc (.cells #[.int .i64 M] 3)
        have HV : Hid ((List.replicate ys.length M)[k]'(by rw [HF.out]; exact hlt) = M) := by show _ = _; simp
        go_wp2_with (at_builtin; (refine wpList_append_own _ rfl _ _ 23 rfl w3.heap.size 3 i0 (.int .i64 0) 1 8 Try.underlying23 hi0 hz0' hz1' hz2' rfl (by decide) _ _ _ rfl hA ⟨wo.heap.size, 0, none⟩ 1 1 [.int .i64 M] rfl rfl (news_one _ _ _) (one_cell _) (by unfold maxLen; omega) (by omega) (by simp; omega) ?_; intro v1 w9 hown1 hgrow1 _))
        have hn := append_one (R := List.replicate ys.length M) (k := k) (by rw [HF.out]; exact hlt) _ HV.out rfl hown1
        have hb1 := (hbel.alloc hbs (.cells #[.int .i64 M] 3)).grown hgrow1 (by simp; omega) (fun g hg => ((hown.lt g hg).1))
        have H := Lib.hid (And.intro hn hb1)
        clear hn hb1 hown1 hgrow1 hown hA hbel
        go_wp2
        go_roundw
        case rel => exact ⟨k + 1, by omega, by go_num, H.out.1, H.out.2⟩
        case measure => simp [intOf]; omega
      · obtain rfl : k = ys.length := by omega
        have he : (List.replicate ys.length M).take ys.length = List.replicate ys.length M := List.take_of_length_le (by simp)
        rw [he] at hown
        clear he
        obtain ⟨AF, cF, rfl, hoF⟩ := own_end hown
        rw [HF.out]
        have kz := kq.below hbel hqh
        have HB2 := Lib.hid (HBB.out.trans (hbel.mono hW0))
        have hqz : w1.heap.size ≤ wo.heap.size := by omega
        have hWz : w.heap.size ≤ wo.heap.size := by omega
        have hB0 : (wo.alloc (.cells #[] 3)).ownsRow wo.heap.size 3 1 (.slice (some ⟨wo.heap.size, 0, none⟩) 0 0) (ys.take 0).reverse.length (ints (ys.take 0).reverse) := World.ownsRow_made wo #[] 0 (Nat.le_refl _) (by unfold maxLen; omega) rfl
        have hb0 := (Below.refl wo.heap.size wo).alloc (Nat.le_refl _) (.cells #[] 3)
        clear hown hbel
        go_wp2
        go_loopw [8, 9] (fun v i wr => ∃ k : Nat, k ≤ ys.length ∧ i = .int .i64 k ∧ wr.ownsRow wo.heap.size 3 1 v (ys.take k).reverse.length (ints (ys.take k).reverse) ∧ Below wo.heap.size wo wr ∧ ¬ v = Value.slice none 0 0) (fun _ i _ => ys.length - (intOf i).toNat)
        case atStart => exact ⟨0, Nat.zero_le _, rfl, hB0, hb0, by intro h; cases h⟩
        case round =>
          obtain ⟨k, hk, rfl, hown, hbel, hne⟩ := hrel
          clear hB0 hb0
          obtain ⟨wp, rfl⟩ : ∃ x, x = wr := ⟨_, rfl⟩
          have hbs := hbel.size
          by_cases hlt : k < ys.length
          · obtain ⟨b1_, o1_, rfl, _, hbh1, hc1⟩ := (kz.below hbel hqz).at_ hlt
            have HV := Lib.hid (rev_next ys k hlt)
            rw [rev_len ys k hk] at hown
            generalize ys[k] = V at hc1 HV
            have hk0 : (0 : Int) ≤ (k : Int) := by omega
            have hk1 : (k : Int) < (ys.length : Int) := by omega
            have hA : (wp.alloc (.cells #[.int .i64 V] 3)).ownsRow wo.heap.size 3 1 (.slice (some ⟨wp.heap.size, 0, none⟩) 1 1) 1 [.int .i64 V] := World.ownsRow_lit wp #[.int .i64 V] 1 hbs (by unfold maxLen; omega) rfl
            have hsA : wo.heap.size ≤ (wp.alloc (.cells #[.int .i64 V] 3)).heap.size := by rw [hsz]; omega
            have hoB := hown.alloc (.cells #[.int .i64 V] 3)
            obtain ⟨gB, cB, rfl, hgB, hgB', hcB⟩ : ∃ g c, _ = Value.slice (some ⟨g, 0, none⟩) k c ∧ wo.heap.size ≤ g ∧ g < wp.heap.size ∧ k ≤ c := own_some hown hne
            have nB := own_news hoB 0 (ys.take k).reverse (fun j hj => by rw [rev_len ys k hk] at hj; exact ⟨by omega, by simp⟩)
            have lB : Hid ((ints (ys.take k).reverse).length = k * 1) := by show _ = _; rw [ints_length, rev_len ys k hk, Nat.mul_one]
            go_wp2_with (at_builtin; refine wpList_append_own _ rfl _ _ 23 rfl wo.heap.size 3 i0 (.int .i64 0) 1 8 Try.underlying23 hi0 hz0' hz1' hz2' rfl (by decide) _ _ _ rfl hA ⟨gB, 0, none⟩ k cB (ints (ys.take k).reverse) rfl lB.out nB (ints_one _) (by unfold maxLen; omega) (by omega) hsA ?_; intro v1 w9 hown1 hgrow1 hnil1)
            have hne1 : Hid (¬ v1 = Value.slice none 0 0) := fun e => by have := (hnil1.1 e).1; cases this
            clear hnil1 hne
            have hn : w9.ownsRow wo.heap.size 3 1 v1 (ys.take (k + 1)).reverse.length (ints (ys.take (k + 1)).reverse) := by rw [rev_len ys (k + 1) hlt, ← HV.out, Nat.add_comm]; exact hown1
            have hb1 := (hbel.alloc hbs (.cells #[.int .i64 V] 3)).grown hgrow1 (by simp; omega) (fun g hg => ((hA.lt g hg).1))
            have H := Lib.hid (And.intro hn hb1)
            clear hn hb1 hown1 hgrow1 hown hA hbel hoB nB
            go_wp2
            go_roundw
            case rel => exact ⟨k + 1, by omega, by go_num, H.out.1, H.out.2, hne1.out⟩
            case measure => simp [intOf]; omega
          · obtain rfl : k = ys.length := by omega
            rw [List.take_length] at hown
            obtain ⟨AB, cB, rfl, hoB⟩ := own_end hown
            have kb := kz.below hbel hqz
            have kF := hoF.ints.below hbel (Nat.le_refl _)
            have kB := hoB.ints
            have B4 := HB2.out.trans (hbel.mono hWz)
            have hF4 : wo.heap.size ≤ wp.heap.size := hbs
            clear hown hbel hoB hoF
            have hlb : ys.reverse.length = ys.length := by simp
            rw [hlb]
            go_wp2_with fail
            refine (implMoreEven_at D1 d1 ys D1 d1 ys ys.length ys.length rfl rfl _ _ _ kb (by first | omega | (simp; omega) | simp) _ _ kb (by first | omega | (simp; omega) | simp) HY.out HY.out (more_refl hn1 hn4)).mono ?_
            rintro e w21 ⟨rfl, hb21⟩
            have o11 := kb.below hb21 (by first | omega | (simp; omega) | simp)
            have o12 := kF.below hb21 (by first | omega | (simp; omega) | simp)
            have o13 := kB.below hb21 (by first | omega | (simp; omega) | simp)
            have hz14 := hb21.size
            have B15 := B4.trans (hb21.mono (by first | omega | (simp; omega) | simp))
            clear hb21
            go_wp2_with fail
            refine (implMoreEven_at AB cB ys.reverse D1 d1 ys ys.length ys.length hlb rfl _ _ _ o13 (by first | omega | (simp; omega) | simp) _ _ o11 (by first | omega | (simp; omega) | simp) (rev_small HY.out) HY.out (rev_more hn1 hn4)).mono ?_
            rintro e w22 ⟨rfl, hb22⟩
            have o16 := o11.below hb22 (by first | omega | (simp; omega) | simp)
            have o17 := o12.below hb22 (by first | omega | (simp; omega) | simp)
            have o18 := o13.below hb22 (by first | omega | (simp; omega) | simp)
            have hz19 := hb22.size
            have B20 := B15.trans (hb22.mono (by first | omega | (simp; omega) | simp))
            clear hb22
            go_wp2_with fail
            refine (implMoreEven_at D1 d1 ys AB cB ys.reverse ys.length ys.length rfl hlb _ _ _ o16 (by first | omega | (simp; omega) | simp) _ _ o18 (by first | omega | (simp; omega) | simp) HY.out (rev_small HY.out) (rev_more' hn1 hn4)).mono ?_
            rintro e w23 ⟨rfl, hb23⟩
            have o21 := o16.below hb23 (by first | omega | (simp; omega) | simp)
            have o22 := o17.below hb23 (by first | omega | (simp; omega) | simp)
            have o23 := o18.below hb23 (by first | omega | (simp; omega) | simp)
            have hz24 := hb23.size
            have B25 := B20.trans (hb23.mono (by first | omega | (simp; omega) | simp))
            clear hb23
            go_wp2_with fail
            refine (lsumOf_any D1 d1 ys _ _ _ o21 HY.out).mono ?_
            rintro e w' ⟨rfl, rfl⟩
            by_cases hr : ys.sum.tmod (ys.length : Int) = 0
            · have HQ : Hid (ys.sum = (ys.length : Int) * M) := by show _ = _; rw [← hM]; have := Int.mul_tdiv_add_tmod ys.sum (ys.length : Int); omega
              have hr0 : (IntKind.i64.wrap (ys.sum.tmod (ys.length : Int)) != 0) = false := by rw [hr]; decide
              go_wp2_with fail
              refine (implMoreEven_at AF cF (List.replicate ys.length M) D1 d1 ys ys.length ys.length HF.out rfl _ _ _ o22 (by first | omega | (simp; omega) | simp) _ _ o21 (by first | omega | (simp; omega) | simp) (flat_small hn4 qq) HY.out (more_flat hn1 hn4 HQ.out)).mono ?_
              rintro e w24 ⟨rfl, hb24⟩
              have o26 := o21.below hb24 (by first | omega | (simp; omega) | simp)
              have o27 := o22.below hb24 (by first | omega | (simp; omega) | simp)
              have o28 := o23.below hb24 (by first | omega | (simp; omega) | simp)
              have hz29 := hb24.size
              have B30 := B25.trans (hb24.mono (by first | omega | (simp; omega) | simp))
              clear hb24
              go_wp2_with fail
              refine (alive_any _).mono ?_
              rintro e w25 ⟨rfl, hb25⟩
              have o31 := o26.below hb25 (by first | omega | (simp; omega) | simp)
              have o32 := o27.below hb25 (by first | omega | (simp; omega) | simp)
              have o33 := o28.below hb25 (by first | omega | (simp; omega) | simp)
              have hz34 := hb25.size
              have B35 := B30.trans (hb25.mono (by first | omega | (simp; omega) | simp))
              clear hb25
              go_wp2
              go_ret
              exact ⟨rfl, B35⟩
            · have hrb := tmod_bd (s := ys.sum) (n := (ys.length : Int)) hsb
              have hr0 : (IntKind.i64.wrap (ys.sum.tmod (ys.length : Int)) != 0) = true := by rw [IntWalk.i64_in _ (by omega), bne_iff_ne]; exact hr
              have hr1 : (ys.sum.tmod (ys.length : Int) != 0) = true := by rw [bne_iff_ne]; exact hr
              have hwr : IntKind.i64.wrap (ys.sum.tmod (ys.length : Int)) = ys.sum.tmod (ys.length : Int) := IntWalk.i64_in _ (by omega)
              go_wp2_with fail
              refine (alive_any _).mono ?_
              rintro e w24 ⟨rfl, hb24⟩
              have o26 := o21.below hb24 (by first | omega | (simp; omega) | simp)
              have o27 := o22.below hb24 (by first | omega | (simp; omega) | simp)
              have o28 := o23.below hb24 (by first | omega | (simp; omega) | simp)
              have hz29 := hb24.size
              have B30 := B25.trans (hb24.mono (by first | omega | (simp; omega) | simp))
              clear hb24
              go_wp2
              go_ret
              exact ⟨rfl, B30⟩
  · have hF : m = false := HM.out.symm.trans (moreB_len hn)
    subst hF
    by_cases hz : ys.length = 0
    · have hz1 : ((ys.length : Int) == 0) = true := by rw [beq_iff_eq]; omega
      clear hn
      go_wp2_with fail
      refine (alive_any _).mono ?_
      rintro e w4 ⟨rfl, hb4⟩
      have o11 := o7.below hb4 (by first | omega | (simp; omega) | simp)
      have o12 := o8.below hb4 (by first | omega | (simp; omega) | simp)
      have hz13 := hb4.size
      have B14 := B10.trans (hb4.mono (by first | omega | (simp; omega) | simp))
      clear hb4
      go_wp2
      go_ret
      exact ⟨rfl, B14⟩
    · have hz1 : ((ys.length : Int) == 0) = false := beq_eq_false_iff_ne.2 (by omega)
      have hz2 : decide ((4 : Int) < (ys.length : Int)) = true := by simp only [decide_eq_true_eq]; omega
      have hz3 : decide (4 < ys.length) = true := by simp only [decide_eq_true_eq]; omega
      clear hn
      go_wp2_with fail
      refine (alive_any _).mono ?_
      rintro e w4 ⟨rfl, hb4⟩
      have o11 := o7.below hb4 (by first | omega | (simp; omega) | simp)
      have o12 := o8.below hb4 (by first | omega | (simp; omega) | simp)
      have hz13 := hb4.size
      have B14 := B10.trans (hb4.mono (by first | omega | (simp; omega) | simp))
      clear hb4
      go_wp2
      go_ret
      exact ⟨rfl, B14⟩

set_option maxRecDepth 10000 in
set_option maxHeartbeats 400000 in
theorem fnMoreEven_big (A0 : Option Addr) (c0 : Nat) (bs : List Int) (w : World) (hl : ¬ bs.length ≤ 1048576) (hm : bs.length ≤ 9223372036854775807) :
    Calls Try.prog 7 #[.slice A0 bs.length c0] w fun e w' => e = .returned (.bool true) ∧ Below w.heap.size w w' := by
  go_enter Try.func7, Try.ntmps7
  go_wp2
  go_ret
  exact ⟨rfl, Below.refl _ _⟩

theorem fnMoreEven_all (A0 : Option Addr) (c0 : Nat) (bs : List Int) (w : World) (h0 : Bytes w w.heap.size A0 bs) (hm : bs.length ≤ 9223372036854775807) (hc0 : bs.length ≤ c0) :
    Calls Try.prog 7 #[.slice A0 bs.length c0] w fun e w' => e = .returned (.bool true) ∧ Below w.heap.size w w' := by
  by_cases hl : bs.length ≤ 1048576
  · exact fnMoreEven_walk A0 c0 bs w h0 hl hc0
  · exact fnMoreEven_big A0 c0 bs w hl hm

end Go.Proofs.Ytjoalilapbleiaa
