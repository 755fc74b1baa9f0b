/-
  The given package's word on rows that are as even: for rows of small numbers the same as the program's. No condition but small numbers.
-/
import Derived.Test.YtjoalilapbleiaaSpecEven
import Derived.Test.YtjoalilapbleiaaMoreImpl
import Derived.BigQuiet
namespace Go.Proofs.Ytjoalilapbleiaa
open Go.RowKit

theorem lead_all {a b : List Int} {P : Int} (h : Lead a b (srt a).length P) (hl : a.length = b.length) (h1 : 1 ≤ a.length) (h4 : a.length ≤ 4) (hs : a.sum = b.sum) : moreB a b = true := by
  have e := lead_end h hl h1 h4
  have e2 := h.1
  rw [List.take_length, show (srt a).length = (srt b).length by rw [srt_length, srt_length, hl], List.take_length, srt_sum, srt_sum, hs] at e2
  rw [e, e2]; simp
theorem moreB_sum {a b : List Int} (h : ¬ a.sum = b.sum) : moreB a b = false := moreB_false fun hm => h hm.2.2.2.1

set_option maxRecDepth 10000 in
set_option maxHeartbeats 4000000 in
theorem specMoreEven_main (A : Option Addr) (c : Nat) (a : List Int) (D : Option Addr) (d : Nat) (b : List Int) (w : World) (lo hi : Nat) (h : Ints w lo hi A a) (hh : hi ≤ w.heap.size) (lo' hi' : Nat) (h' : Ints w lo' hi' D b) (hh' : hi' ≤ w.heap.size) (ha : Small a) (hb : Small b)
    (hl : a.length = b.length) (h1 : 1 ≤ a.length) (h4 : a.length ≤ 4) (hs : a.sum = b.sum) :
    Calls Try.prog 31 #[.slice A a.length c, .slice D b.length d] w fun e w' => e = .returned (.bool (moreB a b)) ∧ Below w.heap.size w w' := by
  have HA := Lib.hid ha
  have HB := Lib.hid hb
  have HL := Lib.hid hl
  have HS := Lib.hid hs
  have HLA := Lib.hid (srt_length a)
  have HLB := Lib.hid (srt_length b)
  have hll : ((a.length : Int) != (b.length : Int)) = false := by rw [hl]; simp
  have hss : (a.sum != b.sum) = false := by rw [hs]; simp
  have h4b : b.length ≤ 4 := by omega
  clear ha hb hl hs
  go_enter Try.func31, Try.ntmps31
  go_wp2_with fail
  refine (l1In_yes _ _ _ _ (by omega)).mono ?_
  rintro e w' ⟨rfl, rfl⟩
  go_wp2_with fail
  refine (l1Sum_any A c a _ lo hi h HA.out).mono ?_
  rintro e w' ⟨rfl, rfl⟩
  go_wp2_with fail
  refine (l1Sum_any D d b _ lo' hi' h' HB.out).mono ?_
  rintro e w' ⟨rfl, rfl⟩
  go_wp2_with fail
  refine (l2Sorted_is A c a _ lo hi h hh (by omega)).mono ?_
  rintro e w1 ⟨A1, c1, ps, rfl, ho1, hs1, hb1⟩
  have q1 := h'.below hb1 hh'
  have z1 := hb1.size
  go_wp2_with fail
  refine (l2Sorted_is D d b _ lo' hi' q1 (by omega) (by omega)).mono ?_
  rintro e w2 ⟨A2, c2, qs, rfl, ho2, hs2, hb2⟩
  have z2 := hb2.size
  have k2 := ho1.ints.below hb2 (Nat.le_refl _)
  have q2 := ho2.ints
  have qa := (h.below hb1 hh).below hb2 (by omega)
  have qb := q1.below hb2 (by omega)
  have H2 := Lib.hid (hb1.trans (hb2.mono z1))
  have HP := Lib.hid hs1
  have HQ := Lib.hid hs2
  clear ho1 ho2 hb1 hb2 h h' q1 hs1 hs2
  go_wp2
  go_loopw [7, 8] (fun s i wr => ∃ k : Nat, ∃ P : Int, k ≤ a.length ∧ i = .int .i64 k ∧ s = .int .i64 P ∧ Lead a b k P ∧ ∃ n, wr = w2.drewN n) (fun _ i _ => a.length - (intOf i).toNat)
  case atStart => exact ⟨0, 0, Nat.zero_le _, rfl, rfl, lead_0 a b, 0, rfl⟩
  case round =>
    obtain ⟨k, P, hk, rfl, rfl, hL, n, rfl⟩ := hrel
    by_cases hlt : k < a.length
    · have hlt' : k < b.length := by have := HL.out; omega
      have hsa : k < (srt a).length := by rw [HLA.out]; exact hlt
      have hsb : k < (srt b).length := by rw [HLB.out]; exact hlt'
      have hpa := HP.out.lt k hlt
      have hpb := HQ.out.lt k hlt'
      obtain ⟨b1, o1, rfl, _, hb1, hc1⟩ := k2.at_ (k := k) (by rw [ofN_length, HP.out.len]; exact hlt)
      obtain ⟨b2, o2, rfl, _, hb2, hc2⟩ := q2.at_ (k := k) (by rw [ofN_length, HQ.out.len]; exact hlt')
      have e1 := ofN_getD ps k (by rw [HP.out.len]; exact hlt)
      have e2 := ofN_getD qs k (by rw [HQ.out.len]; exact hlt')
      rw [getD_of_lt _ _ (by rw [ofN_length, HP.out.len]; exact hlt)] at e1
      rw [getD_of_lt _ _ (by rw [ofN_length, HQ.out.len]; exact hlt')] at e2
      rw [e1] at hc1
      rw [e2] at hc2
      obtain ⟨b3, o3, rfl, _, hb3, hc3⟩ := qa.at_ hpa
      obtain ⟨b4, o4, rfl, _, hb4, hc4⟩ := qb.at_ hpb
      have g1 := srt_at HP.out k hsa
      have g2 := srt_at HQ.out k hsb
      rw [getD_of_lt _ _ hpa] at g1
      rw [getD_of_lt _ _ hpb] at g2
      have s1 := srt_small HA.out k hsa
      have s2 := srt_small HB.out k hsb
      have hpb2 := hL.2.2
      have HN := Lib.hid (fun h0 => lead_next hL HA.out HB.out hsa hsb h0)
      have HT := Lib.hid (fun h0 => lead_stop hL HL.out hsa hsb h0)
      clear hL e1 e2
      rw [← g1] at hc3
      rw [← g2] at hc4
      clear g1 g2
      generalize (srt a)[k] = x at hc3 s1 HN HT
      generalize (srt b)[k] = y at hc4 s2 HN HT
      generalize ps.getD k 0 = p at hc1 hc3 hpa
      generalize qs.getD k 0 = q at hc2 hc4 hpb
      have hk0 : (0 : Int) ≤ (k : Int) := by omega
      have hk1 : (k : Int) < (a.length : Int) := by omega
      have hk2 : (k : Int) < (b.length : Int) := by omega
      have hp0 : (0 : Int) ≤ (p : Int) := by omega
      have hp1 : (p : Int) < (a.length : Int) := by omega
      have hq0 : (0 : Int) ≤ (q : Int) := by omega
      have hq1 : (q : Int) < (b.length : Int) := by omega
      have hw1 : IntKind.i64.wrap (P + x) = P + x := IntWalk.i64_in _ (by omega)
      have hw2 : IntKind.i64.wrap (P + x - y) = P + x - y := IntWalk.i64_in _ (by omega)
      by_cases hP : 0 ≤ P + x - y
      · have hd : decide (P + x - y < 0) = false := by simp only [decide_eq_false_iff_not]; omega
        have H := Lib.hid (HN.out hP)
        clear HN HT
        go_wp2
        go_quiet (fail)
        go_wp2
        go_roundw
        case rel => exact ⟨k + 1, P + x - y, by omega, by go_num, rfl, H.out, by first | exact ⟨_, rfl⟩ | (rw [World.drewN_drewN]; exact ⟨_, rfl⟩)⟩
        case measure => simp [intOf]; omega
      · have hd : decide (P + x - y < 0) = true := by simp only [decide_eq_true_eq]; omega
        have HF := Lib.hid (HT.out (by omega))
        clear HN HT
        go_wp2
        go_quiet (fail)
        go_wp2
        go_ret
        exact ⟨ret_bool HF.out.symm, below_drewN H2.out _⟩
    · obtain rfl : k = a.length := by omega
      rw [← HLA.out] at hL
      have HF := Lib.hid (lead_all hL HL.out h1 h4 HS.out)
      clear hL
      go_wp2
      go_ret
      exact ⟨ret_bool HF.out.symm, below_drewN H2.out _⟩

set_option maxRecDepth 10000 in
set_option maxHeartbeats 400000 in
theorem specMoreEven_sum (A : Option Addr) (c : Nat) (a : List Int) (D : Option Addr) (d : Nat) (b : List Int) (w : World) (lo hi : Nat) (h : Ints w lo hi A a) (lo' hi' : Nat) (h' : Ints w lo' hi' D b) (ha : Small a) (hb : Small b)
    (hl : a.length = b.length) (h1 : 1 ≤ a.length) (h4 : a.length ≤ 4) (hs : ¬ a.sum = b.sum) :
    Calls Try.prog 31 #[.slice A a.length c, .slice D b.length d] w fun e w' => e = .returned (.bool (moreB a b)) ∧ Below w.heap.size w w' := by
  have HF := Lib.hid (moreB_sum hs)
  have HA := Lib.hid ha
  have HB := Lib.hid hb
  have hll : ((a.length : Int) != (b.length : Int)) = false := by rw [hl]; simp
  have hss : (a.sum != b.sum) = true := by rw [bne_iff_ne]; exact hs
  clear ha hb hl hs
  go_enter Try.func31, Try.ntmps31
  go_wp2_with fail
  refine (l1In_yes _ _ _ _ (by omega)).mono ?_
  rintro e w' ⟨rfl, rfl⟩
  go_wp2_with fail
  refine (l1Sum_any A c a _ lo hi h HA.out).mono ?_
  rintro e w' ⟨rfl, rfl⟩
  go_wp2_with fail
  refine (l1Sum_any D d b _ lo' hi' h' HB.out).mono ?_
  rintro e w' ⟨rfl, rfl⟩
  go_wp2
  go_ret
  exact ⟨ret_bool HF.out.symm, Below.refl _ _⟩

set_option maxRecDepth 10000 in
set_option maxHeartbeats 400000 in
theorem specMoreEven_off (A : Option Addr) (c : Nat) (a : List Int) (D : Option Addr) (d : Nat) (b : List Int) (w : World) (hla : a.length ≤ 1152921504606846976) (hn : ¬ (a.length = b.length ∧ 1 ≤ a.length ∧ a.length ≤ 4)) :
    Calls Try.prog 31 #[.slice A a.length c, .slice D b.length d] w fun e w' => e = .returned (.bool (moreB a b)) ∧ Below w.heap.size w w' := by
  have HF : Hid (moreB a b = false) := moreB_false fun h => hn ⟨h.1, h.2.1, h.2.2.1⟩
  by_cases hl : a.length = b.length
  · have hll : ((a.length : Int) != (b.length : Int)) = false := by rw [hl]; simp
    have h5 : ¬ ((1 : Int) ≤ (a.length : Int) ∧ (a.length : Int) ≤ 4) := fun h => hn ⟨hl, by omega⟩
    clear hn hl
    go_enter Try.func31, Try.ntmps31
    go_wp2_with fail
    refine (l1In_no _ _ _ _ h5).mono ?_
    rintro e w' ⟨rfl, rfl⟩
    go_wp2
    go_ret
    exact ⟨ret_bool HF.out.symm, Below.refl _ _⟩
  · have hll : ((a.length : Int) != (b.length : Int)) = true := by rw [bne_iff_ne]; omega
    clear hn hl
    go_enter Try.func31, Try.ntmps31
    go_wp2
    go_ret
    exact ⟨ret_bool HF.out.symm, Below.refl _ _⟩

theorem specMoreEven_any (A : Option Addr) (c : Nat) (a : List Int) (D : Option Addr) (d : Nat) (b : List Int) (w : World) (lo hi : Nat) (h : Ints w lo hi A a) (hh : hi ≤ w.heap.size) (lo' hi' : Nat) (h' : Ints w lo' hi' D b) (hh' : hi' ≤ w.heap.size) (ha : Small a) (hb : Small b) :
    Calls Try.prog 31 #[.slice A a.length c, .slice D b.length d] w fun e w' => e = .returned (.bool (moreB a b)) ∧ Below w.heap.size w w' := by
  have l1 := ha.1
  by_cases hn : a.length = b.length ∧ 1 ≤ a.length ∧ a.length ≤ 4
  · by_cases hs : a.sum = b.sum
    · exact specMoreEven_main A c a D d b w lo hi h hh lo' hi' h' hh' ha hb hn.1 hn.2.1 hn.2.2 hs
    · exact specMoreEven_sum A c a D d b w lo hi h lo' hi' h' ha hb hn.1 hn.2.1 hn.2.2 hs
  · exact specMoreEven_off A c a D d b w (by omega) hn

end Go.Proofs.Ytjoalilapbleiaa
