/-
  Chapter 11 of the program: VisitsOk, PassShares, PassWorth, PassOrders. No condition but lengths that fit.
-/
import Derived.Test.YtdbohnaohinieaaSpec11
import Derived.Test.YtdbohnaohinieaaOnes
import Derived.Test.YtdbohnaohinieaaRiseA
import Derived.Test.YtdbohnaohinieaaGA
import Derived.Test.YtdbohnaohinieaaGame6A
import Derived.BigQuiet
import Derived.Deep.Cut
namespace Go.Proofs.Ytdbohnaohinieaa
open Go.RowKit

theorem vis_all {n p : Nat} {vs : List Int} (h1 : 1 ≤ n) (h4 : n ≤ 4) (h6 : vs.length ≤ 6) (hp : 2 ^ n = p) : visB (n : Int) vs = allB ((p : Int) - 1) vs := by
  rw [Bool.eq_iff_iff, visB_iff, allB_iff, Int.toNat_natCast, ← powI, hp]
  constructor
  · intro q v hv; have e := q.2.2.2 v hv; omega
  · intro q; exact ⟨by omega, by omega, h6, fun v hv => by have e := q v hv; omega⟩
theorem vis_not {N : Int} {vs : List Int} (h : ¬ (1 ≤ N ∧ N ≤ 4 ∧ vs.length ≤ 6)) : visB N vs = false := by
  cases e : visB N vs with
  | false => rfl
  | true => have q := (visB_iff N vs).1 e; exact absurd ⟨q.1, q.2.1, q.2.2.1⟩ h

set_option maxRecDepth 10000 in
set_option maxHeartbeats 1000000 in
theorem implVisits_in (n : Nat) (A : Option Addr) (c : Nat) (vs : List Int) (w : World) (lo hi : Nat) (h : Ints w lo hi A vs) (hl : vs.length ≤ 1000000000) (h1 : 1 ≤ n) (h4 : n ≤ 4) :
    Calls Try.prog 13 #[.int .i64 (n : Int), .slice A vs.length c] w fun e w' => e = .returned (.bool (visB (n : Int) vs)) ∧ w = w' := by
  obtain ⟨p, hp⟩ : ∃ p : Nat, 2 ^ n = p := ⟨_, rfl⟩
  have hpb := pow16 h4
  rw [hp] at hpb
  obtain ⟨hp1, hp2⟩ := hpb
  have HP := Lib.hid hp
  clear hp
  go_enter Try.func13, Try.ntmps13
  have h1_ : ¬ ((n : Int) < 1) := by omega
  have h1_d : decide ((n : Int) < 1) = false := decide_eq_false h1_
  have h2_ : ¬ ((n : Int) > 4) := by omega
  have h2_d : decide ((n : Int) > 4) = false := decide_eq_false h2_
  by_cases h3_ : (vs.length : Int) > 6
  · have h3_d : decide ((vs.length : Int) > 6) = true := decide_eq_true h3_
    go_wp2
    go_ret
    exact ⟨ret_bool (by first | exact (vis_not (by omega)).symm | exact (decide_eq_true (by omega)).trans (vis_not (by omega)).symm), rfl⟩
  · have h3_d : decide ((vs.length : Int) > 6) = false := decide_eq_false h3_
    go_wp2_with fail
    refine (setsOf_is n p _ (by omega) HP.out).mono ?_
    rintro e w' ⟨rfl, rfl⟩
    by_cases h4_ : allB ((p : Int) - 1) vs = true
    · have H4_ := Lib.hid h4_
      clear h4_
      go_wp2_with fail
      refine (allUpTo_any ((p : Int) - 1) A c vs _ _ _ h (by omega)).mono ?_
      rintro e w' ⟨he, rfl⟩
      rw [H4_.out] at he
      subst he
      go_wp2
      go_ret
      exact ⟨ret_bool (by first | exact (by rw [vis_all (by omega) (by omega) (by omega) HP.out]; exact H4_.out.symm) | exact (decide_eq_false (by omega)).trans (by rw [vis_all (by omega) (by omega) (by omega) HP.out]; exact H4_.out.symm)), rfl⟩
    · have H4_ : Hid (allB ((p : Int) - 1) vs = false) := by show _ = _; simpa using h4_
      clear h4_
      go_wp2_with fail
      refine (allUpTo_any ((p : Int) - 1) A c vs _ _ _ h (by omega)).mono ?_
      rintro e w' ⟨he, rfl⟩
      rw [H4_.out] at he
      subst he
      go_wp2
      go_ret
      exact ⟨ret_bool (by first | exact (by rw [vis_all (by omega) (by omega) (by omega) HP.out]; exact H4_.out.symm) | exact (decide_eq_false (by omega)).trans (by rw [vis_all (by omega) (by omega) (by omega) HP.out]; exact H4_.out.symm)), rfl⟩

set_option maxRecDepth 10000 in
set_option maxHeartbeats 1000000 in
theorem implVisits_far (N : Int) (A : Option Addr) (c : Nat) (vs : List Int) (w : World) (lo hi : Nat) (_h : Ints w lo hi A vs) (_hl : vs.length ≤ 1000000000) (hn : N < 1) :
    Calls Try.prog 13 #[.int .i64 N, .slice A vs.length c] w fun e w' => e = .returned (.bool (visB N vs)) ∧ w = w' := by
  go_enter Try.func13, Try.ntmps13
  have h1_ : N < 1 := hn
  have h1_d : decide (N < 1) = true := decide_eq_true h1_
  go_wp2
  go_ret
  exact ⟨ret_bool (by first | exact (vis_not (by omega)).symm | exact (decide_eq_true (by omega)).trans (vis_not (by omega)).symm), rfl⟩

set_option maxRecDepth 10000 in
set_option maxHeartbeats 1000000 in
theorem implVisits_big (N : Int) (A : Option Addr) (c : Nat) (vs : List Int) (w : World) (lo hi : Nat) (_h : Ints w lo hi A vs) (_hl : vs.length ≤ 1000000000) (hn : N > 4) :
    Calls Try.prog 13 #[.int .i64 N, .slice A vs.length c] w fun e w' => e = .returned (.bool (visB N vs)) ∧ w = w' := by
  go_enter Try.func13, Try.ntmps13
  have h1_ : ¬ (N < 1) := by omega
  have h1_d : decide (N < 1) = false := decide_eq_false h1_
  have h2_ : N > 4 := hn
  have h2_d : decide (N > 4) = true := decide_eq_true h2_
  go_wp2
  go_ret
  exact ⟨ret_bool (by first | exact (vis_not (by omega)).symm | exact (decide_eq_true (by omega)).trans (vis_not (by omega)).symm), rfl⟩

theorem implVisits_same (N : Int) (A : Option Addr) (c : Nat) (vs : List Int) (w : World) (lo hi : Nat) (h : Ints w lo hi A vs) (hl : vs.length ≤ 1000000000) :
    Calls Try.prog 13 #[.int .i64 N, .slice A vs.length c] w (fun e w' => e = .returned (.bool (visB N vs)) ∧ w = w') := by
  by_cases h1 : N < 1
  · exact implVisits_far N A c vs w lo hi h hl h1
  · by_cases h4 : N > 4
    · exact implVisits_big N A c vs w lo hi h hl h4
    · obtain ⟨n, rfl⟩ : ∃ n : Nat, N = (n : Int) := ⟨N.toNat, by omega⟩
      exact implVisits_in n A c vs w lo hi h hl (by omega) (by omega)
theorem implVisitsOk_any (N : Int) (A : Option Addr) (c : Nat) (vs : List Int) (w : World) (lo hi : Nat) (h : Ints w lo hi A vs) (_hh : hi ≤ w.heap.size) (hl : vs.length ≤ 1000000000) :
    Calls Try.prog 13 #[.int .i64 N, .slice A vs.length c] w (fun e w' => e = .returned (.bool (visB N vs)) ∧ Below w.heap.size w w') := (implVisits_same N A c vs w lo hi h hl).mono fun _ _ ⟨e, r⟩ => ⟨e, r ▸ Below.refl _ _⟩

set_option maxRecDepth 10000 in
set_option maxHeartbeats 400000 in
theorem isPrice_any (s : Int) (w : World) :
    Calls Try.prog 38 #[.int .i64 s] w fun e w' => e = .returned (.bool (decide (0 ≤ s ∧ s ≤ 12))) ∧ w = w' := by
  go_enter Try.func38, Try.ntmps38
  by_cases h1_ : s ≥ 0
  · have h1_d : decide (s ≥ 0) = true := decide_eq_true h1_
    by_cases h2_ : s ≤ 12
    · have h2_d : decide (s ≤ 12) = true := decide_eq_true h2_
      go_wp2
      go_ret
      exact ⟨ret_bool (by first | exact (by first | rfl | exact (decide_eq_true (show (0 ≤ s ∧ s ≤ 12) by omega)).symm) | exact (decide_eq_true (by omega)).trans (by first | rfl | exact (decide_eq_true (show (0 ≤ s ∧ s ≤ 12) by omega)).symm)), rfl⟩
    · have h2_d : decide (s ≤ 12) = false := decide_eq_false h2_
      go_wp2
      go_ret
      exact ⟨ret_bool (by first | exact (by first | rfl | exact (decide_eq_false (show ¬ (0 ≤ s ∧ s ≤ 12) by omega)).symm) | exact (decide_eq_false (by omega)).trans (by first | rfl | exact (decide_eq_false (show ¬ (0 ≤ s ∧ s ≤ 12) by omega)).symm)), rfl⟩
  · have h1_d : decide (s ≥ 0) = false := decide_eq_false h1_
    go_wp2
    go_ret
    exact ⟨ret_bool (by first | exact (by first | rfl | exact (decide_eq_false (show ¬ (0 ≤ s ∧ s ≤ 12) by omega)).symm) | exact (decide_eq_false (by omega)).trans (by first | rfl | exact (decide_eq_false (show ¬ (0 ≤ s ∧ s ≤ 12) by omega)).symm)), rfl⟩

theorem isPrice_yes (s : Int) (w : World) (h : 0 ≤ s ∧ s ≤ 12) : Calls Try.prog 38 #[.int .i64 s] w (fun e w' => e = .returned (.bool true) ∧ w = w') :=
  (isPrice_any s w).mono fun _ _ ⟨e, r⟩ => ⟨by rw [e, decide_eq_true h], r⟩
theorem isPrice_no (s : Int) (w : World) (h : ¬ (0 ≤ s ∧ s ≤ 12)) : Calls Try.prog 38 #[.int .i64 s] w (fun e w' => e = .returned (.bool false) ∧ w = w') :=
  (isPrice_any s w).mono fun _ _ ⟨e, r⟩ => ⟨by rw [e, decide_eq_false h], r⟩

set_option maxRecDepth 10000 in
set_option maxHeartbeats 1000000 in
theorem implPassWorth_in (n : Nat) (A : Option Addr) (c : Nat) (vs : List Int) (t : Nat) (w : World) (lo hi : Nat) (h : Ints w lo hi A vs) (hl : vs.length ≤ 1000000000) (hb : visB (n : Int) vs = true) (ht : t < 2 ^ n) :
    Calls Try.prog 21 #[.int .i64 (n : Int), .slice A vs.length c, .int .i64 (t : Int)] w fun e w' => e = .returned (.int .i64 (worthP vs t)) ∧ w = w' := by
  have HVB := Lib.hid hb
  have hvn := vis_n hb
  obtain ⟨hn1, hn4, hv6⟩ := hvn
  obtain ⟨hpw1, hpw2⟩ := pow_bd hn4
  have hpn := pow16 hn4
  obtain ⟨hpn1, hpn2⟩ := hpn
  have HV := Lib.hid (vis_rg hb)
  clear hb
  obtain ⟨p, hp⟩ : ∃ p : Nat, 2 ^ n = p := ⟨_, rfl⟩
  have HP := Lib.hid hp
  have HTI : Hid (0 ≤ (t : Int) ∧ (t : Int) < (p : Int)) := ⟨by omega, by omega⟩
  have ht16 : t < 16 := by omega
  clear hp
  go_enter Try.func21, Try.ntmps21
  go_wp2_with fail
  refine (implVisits_same (n : Int) A c vs _ _ _ h (by omega)).mono ?_
  rintro e w' ⟨he, rfl⟩
  rw [HVB.out] at he
  subst he
  go_wp2_with fail
  refine (isSet_yes (t : Int) n p _ (by omega) HP.out HTI.out).mono ?_
  rintro e w' ⟨rfl, rfl⟩
  go_wp2
  go_loop [7, 22] (fun cc i => ∃ k : Nat, ∃ C : Int, cc = .int .i64 C ∧ i = .int .i64 k ∧ (k ≤ vs.length) ∧ (C = worthTo' vs t k)) (fun cc i => vs.length - (intOf i).toNat)
  case atStart => exact ⟨0, 0, rfl, rfl, Nat.zero_le _, rfl⟩
  case round =>
    obtain ⟨k, C, rfl, rfl, hk, hC⟩ := hrel
    have hCb := worthTo'_rg vs t k
    rw [← hC] at hCb
    obtain ⟨hCb1, hCb2⟩ := hCb
    have HC := Lib.hid hC
    clear hC
    by_cases hlt0 : k < vs.length
    · obtain ⟨b1_, f2_, rfl, _, b1_h, -⟩ := h (by omega)
      have c3_ : w.cell? ⟨b1_, f2_ + k, none⟩ = some (.int .i64 (vs.getD k 0)) := h.at2 k (by first | omega | (simp; omega) | simp)
      have c3_i : (k : Int) < (vs.length : Int) := by omega
      have c3_j : (0 : Int) ≤ (k : Int) := by omega
      have v4_g := (HV.out k : 0 ≤ vs.getD k 0 ∧ vs.getD k 0 < 2 ^ n)
      obtain ⟨v4_, hv4_⟩ : ∃ v, v = vs.getD k 0 := ⟨_, rfl⟩
      rw [← hv4_] at c3_ v4_g
      have Hv4_ := Lib.hid hv4_
      clear hv4_
      obtain ⟨v4_g1, v4_g2⟩ := v4_g
      by_cases h5_ : v4_ = 0
      · have h5_b : (v4_ == 0) = true := by simpa using h5_
        have h5_n : (v4_ != 0) = false := by simpa using h5_
        have h5_le : v4_ ≤ 0 := by omega
        have h5_ge : 0 ≤ v4_ := by omega
        have Hh5_ := Lib.hid h5_
        clear h5_
        go_wp2
        go_round
        case rel => exact ⟨k + 1, C, by go_num, by go_num, by omega, by show _ = worthTo' vs t k + inSet (visAt vs k) t; rw [← HC.out]; rw [worth_zero Hv4_.out Hh5_.out]; omega⟩
        case measure => simp [intOf] <;> omega
      · have h5_b : (v4_ == 0) = false := by simpa using h5_
        have h5_n : (v4_ != 0) = true := by simpa using h5_
        obtain ⟨B6_, hB6_⟩ : ∃ B, bits .andNot .i64 v4_ (t : Int) = B := ⟨_, rfl⟩
        have HAN := Lib.hid hB6_
        by_cases h7_ : B6_ = 0
        · have h7_b : (B6_ == 0) = true := by simpa using h7_
          have h7_n : (B6_ != 0) = false := by simpa using h7_
          have h7_le : B6_ ≤ 0 := by omega
          have h7_ge : 0 ≤ B6_ := by omega
          have Hh7_ := Lib.hid h7_
          clear h7_
          go_wp2
          go_round
          case rel => exact ⟨k + 1, C + 1, by go_num, by go_num, by omega, by show _ = worthTo' vs t k + inSet (visAt vs k) t; rw [← HC.out]; rw [worth_bit HVB.out (by omega) Hv4_.out h5_ HAN.out, if_pos Hh7_.out]⟩
          case measure => simp [intOf] <;> omega
        · have h7_b : (B6_ == 0) = false := by simpa using h7_
          have h7_n : (B6_ != 0) = true := by simpa using h7_
          go_wp2
          go_round
          case rel => exact ⟨k + 1, C, by go_num, by go_num, by omega, by show _ = worthTo' vs t k + inSet (visAt vs k) t; rw [← HC.out]; rw [worth_bit HVB.out (by omega) Hv4_.out h5_ HAN.out, if_neg h7_]; omega⟩
          case measure => simp [intOf] <;> omega
    · obtain rfl : k = vs.length := by omega
      go_wp2
      go_ret
      exact ⟨ret_int HC.out, rfl⟩

set_option maxRecDepth 10000 in
set_option maxHeartbeats 1000000 in
theorem implPassWorth_no (N : Int) (A : Option Addr) (c : Nat) (vs : List Int) (s : Int) (w : World) (lo hi : Nat) (h : Ints w lo hi A vs) (hl : vs.length ≤ 1000000000) (hb : visB N vs = false) :
    Calls Try.prog 21 #[.int .i64 N, .slice A vs.length c, .int .i64 s] w fun e w' => e = .returned (.int .i64 (passW N vs s)) ∧ w = w' := by
  have HVB := Lib.hid hb
  clear hb
  go_enter Try.func21, Try.ntmps21
  go_wp2_with fail
  refine (implVisits_same N A c vs _ _ _ h (by omega)).mono ?_
  rintro e w' ⟨he, rfl⟩
  rw [HVB.out] at he
  subst he
  go_wp2
  go_ret
  exact ⟨ret_int (by rw [passW, HVB.out]; simp), rfl⟩

set_option maxRecDepth 10000 in
set_option maxHeartbeats 1000000 in
theorem implPassWorth_far (n : Nat) (A : Option Addr) (c : Nat) (vs : List Int) (s : Int) (w : World) (lo hi : Nat) (h : Ints w lo hi A vs) (hl : vs.length ≤ 1000000000) (hb : visB (n : Int) vs = true) (hs : ¬ (0 ≤ s ∧ s < 2 ^ n)) :
    Calls Try.prog 21 #[.int .i64 (n : Int), .slice A vs.length c, .int .i64 s] w fun e w' => e = .returned (.int .i64 (passW (n : Int) vs s)) ∧ w = w' := by
  have HVB := Lib.hid hb
  have hvn := vis_n hb
  obtain ⟨hn1, hn4, hv6⟩ := hvn
  obtain ⟨hpw1, hpw2⟩ := pow_bd hn4
  have hpn := pow16 hn4
  obtain ⟨hpn1, hpn2⟩ := hpn
  have HV := Lib.hid (vis_rg hb)
  clear hb
  obtain ⟨p, hp⟩ : ∃ p : Nat, 2 ^ n = p := ⟨_, rfl⟩
  have HP := Lib.hid hp
  have HSF : Hid (¬ (0 ≤ s ∧ s < (p : Int))) := fun q => hs ⟨q.1, by have e := q.2; have e2 := powI (n := n); omega⟩
  have HSG := Lib.hid hs
  clear hs hp
  go_enter Try.func21, Try.ntmps21
  go_wp2_with fail
  refine (implVisits_same (n : Int) A c vs _ _ _ h (by omega)).mono ?_
  rintro e w' ⟨he, rfl⟩
  rw [HVB.out] at he
  subst he
  go_wp2_with fail
  refine (isSet_no s n p _ (by omega) HP.out HSF.out).mono ?_
  rintro e w' ⟨rfl, rfl⟩
  go_wp2
  go_ret
  exact ⟨ret_int (by rw [passW, if_neg (fun q => HSG.out q.2)]), rfl⟩

theorem implPassW_same (N : Int) (A : Option Addr) (c : Nat) (vs : List Int) (s : Int) (w : World) (lo hi : Nat) (h : Ints w lo hi A vs) (hl : vs.length ≤ 1000000000) :
    Calls Try.prog 21 #[.int .i64 N, .slice A vs.length c, .int .i64 s] w (fun e w' => e = .returned (.int .i64 (passW N vs s)) ∧ w = w') := by
  by_cases hb : visB N vs = true
  · obtain ⟨n, rfl⟩ := vis_nat hb
    by_cases hs : 0 ≤ s ∧ s < 2 ^ n
    · obtain ⟨t, rfl⟩ : ∃ t : Nat, s = (t : Int) := ⟨s.toNat, by omega⟩
      have e := implPassWorth_in n A c vs t w lo hi h hl hb (by have q := powI (n := n); omega)
      rwa [show passW (n : Int) vs (t : Int) = worthP vs t from if_pos ⟨hb, hs.1, hs.2⟩]
    · exact implPassWorth_far n A c vs s w lo hi h hl hb hs
  · exact implPassWorth_no N A c vs s w lo hi h hl (by simpa using hb)
theorem implPassWorth_any (N : Int) (A : Option Addr) (c : Nat) (vs : List Int) (s : Int) (w : World) (lo hi : Nat) (h : Ints w lo hi A vs) (_hh : hi ≤ w.heap.size) (hl : vs.length ≤ 1000000000) :
    Calls Try.prog 21 #[.int .i64 N, .slice A vs.length c, .int .i64 s] w (fun e w' => e = .returned (.int .i64 (passW N vs s)) ∧ Below w.heap.size w w') := (implPassW_same N A c vs s w lo hi h hl).mono fun _ _ ⟨e, r⟩ => ⟨e, r ▸ Below.refl _ _⟩

set_option maxRecDepth 10000 in
set_option maxHeartbeats 2000000 in
theorem implPassShares_yes (n : Nat) (A : Option Addr) (c : Nat) (vs : List Int) (p : Int) (w : World) (lo hi : Nat) (h : Ints w lo hi A vs) (hh : hi ≤ w.heap.size) (hl : vs.length ≤ 1000000000) (hb : visB (n : Int) vs = true) (hp : 0 ≤ p ∧ p ≤ 12) :
    Calls Try.prog 17 #[.int .i64 (n : Int), .slice A vs.length c, .int .i64 p] w (RetInts w (passRow (n : Int) vs p)) := by
  have HVB := Lib.hid hb
  have hvn := vis_n hb
  obtain ⟨hn1, hn4, hv6⟩ := hvn
  obtain ⟨hpw1, hpw2⟩ := pow_bd hn4
  have hpn := pow16 hn4
  obtain ⟨hpn1, hpn2⟩ := hpn
  have HV := Lib.hid (vis_rg hb)
  clear hb
  have HPP := Lib.hid hp
  obtain ⟨hp0, hp1⟩ := hp
  go_enter Try.func17, Try.ntmps17
  go_wp2_with fail
  refine (implVisits_same (n : Int) A c vs _ _ _ h (by omega)).mono ?_
  rintro e w' ⟨he, rfl⟩
  rw [HVB.out] at he
  subst he
  go_wp2_with fail
  refine (isPrice_yes p _ HPP.out).mono ?_
  rintro e w' ⟨rfl, rfl⟩
  go_upto_region 4 with (at_make; (refine make_gr (by rfl) _ _ (by rfl) (n := n) (x := (n : Int)) (by omega) (by rfl) (by rfl) (by omega) ?_; intro w1 G1_ hb2_))
  have o4_ := h.below hb2_ (by first | omega | (simp; omega) | simp)
  have z5_ := hb2_.size
  have B6_ := (Below.refl w.heap.size w).trans (hb2_.mono (by first | omega | (simp; omega) | simp))
  clear hb2_
  have l7_ := G1_.lt
  have HL8_ : Hid ((List.replicate n 0).length = n) := List.length_replicate
  go_wp2
  go_loopw [24] (fun i wr => ∃ k : Nat, i = .int .i64 k ∧ (k ≤ vs.length) ∧ Grow wr w.heap.size n (fnRow n (passTo vs p n k)) ∧ Below w.heap.size w wr ∧ w1.heap.size ≤ wr.heap.size ∧ Ints wr (lo) (hi) A vs) (fun i _ => vs.length - (intOf i).toNat)
  case atStart => exact ⟨0, rfl, Nat.zero_le _, (by rw [passRow_zero]; exact G1_), B6_, (by first | omega | (simp; omega) | simp), o4_⟩
  case round =>
    obtain ⟨k, rfl, hk, G10_, k11_, k12_, k13_⟩ := hrel
    obtain ⟨w9, rfl⟩ : ∃ x, x = wr := ⟨_, rfl⟩
    have HL14_ : Hid ((fnRow n (passTo vs p n k)).length = n) := (fnRow_length _ _)
    have l15_ := G10_.lt
    by_cases hlt0 : k < vs.length
    · obtain ⟨b16_, f17_, rfl, _, b16_h, -⟩ := k13_ (by omega)
      have c18_ : w9.cell? ⟨b16_, f17_ + k, none⟩ = some (.int .i64 (vs.getD k 0)) := k13_.at2 k (by first | omega | (simp; omega) | simp)
      have c18_i : (k : Int) < (vs.length : Int) := by omega
      have c18_j : (0 : Int) ≤ (k : Int) := by omega
      have v19_g := (HV.out k : 0 ≤ vs.getD k 0 ∧ vs.getD k 0 < 2 ^ n)
      obtain ⟨v19_, hv19_⟩ : ∃ v, v = vs.getD k 0 := ⟨_, rfl⟩
      rw [← hv19_] at c18_ v19_g
      have Hv19_ := Lib.hid hv19_
      clear hv19_
      obtain ⟨v19_g1, v19_g2⟩ := v19_g
      go_wp2
      go_loopw [29] (fun qq wr => ∃ q : Nat, qq = .int .i64 q ∧ (q ≤ n) ∧ Grow wr w.heap.size n (fnRow n (fun i => if i < q then passTo vs p n (k + 1) i else passTo vs p n k i)) ∧ Below w.heap.size w wr ∧ w9.heap.size ≤ wr.heap.size ∧ Ints wr (lo) (hi) (some ⟨b16_, f17_, none⟩) vs) (fun qq _ => n - (intOf qq).toNat)
      case atStart => exact ⟨0, rfl, Nat.zero_le _, (by rw [passRow_start]; exact G10_), k11_, (by first | omega | (simp; omega) | simp), k13_⟩
      case round =>
        obtain ⟨q, rfl, hq, G21_, k22_, k23_, k24_⟩ := hrel
        obtain ⟨w20, rfl⟩ : ∃ x, x = wr := ⟨_, rfl⟩
        have HL25_ : Hid ((fnRow n (fun i => if i < q then passTo vs p n (k + 1) i else passTo vs p n k i)).length = n) := (fnRow_length _ _)
        have l26_ := G21_.lt
        by_cases hlt2 : q < n
        · by_cases h27_ : v19_ / 2 ^ q % 2 = 1
          · have H27_ := Lib.hid h27_
            clear h27_
            have HBT : Hid ((visAt vs k).testBit q = true) := (bit_at HVB.out Hv19_.out).1 H27_.out
            go_wp2_with fail
            refine (isWithin_yes q v19_ _ (by omega) (by omega) (by omega) H27_.out).mono ?_
            rintro e w' ⟨rfl, rfl⟩
            have c28_ : w20.cell? ⟨w.heap.size, q, none⟩ = some (.int .i64 ((fnRow n (fun i => if i < q then passTo vs p n (k + 1) i else passTo vs p n k i)).getD q 0)) := G21_.at_ q (by rw [fnRow_length]; omega)
            have c28_i : (q : Int) < (n : Int) := by omega
            have c28_j : (0 : Int) ≤ (q : Int) := by omega
            have v29_g := passMid_rg (vs := vs) hn4 ⟨hp0, hp1⟩ (k := k) (q := q) (by omega) (i := q) (by omega)
            obtain ⟨v29_, hv29_⟩ : ∃ v, v = (fnRow n (fun i => if i < q then passTo vs p n (k + 1) i else passTo vs p n k i)).getD q 0 := ⟨_, rfl⟩
            rw [← hv29_] at c28_ v29_g
            have Hv29_ := Lib.hid hv29_
            clear hv29_
            obtain ⟨v29_g1, v29_g2⟩ := v29_g
            obtain ⟨v30_, hv30_⟩ : ∃ v, ((pop v19_.toNat 4 : Nat) : Int) = v := ⟨_, rfl⟩
            have v30_m : ((pop (visAt vs k) n : Nat) : Int) = v30_ := by rw [← hv30_, ones_pop hn4 (show v19_.toNat < 2 ^ n by have q := powI (n := n); omega)]; unfold visAt; rw [Hv19_.out]
            have v30_a := pop_le (visAt vs k) n
            have v30_b := pop_up _ HBT.out (n := n) (by omega)
            have v30_c : 1 ≤ v30_ := by omega
            have v30_d : v30_ ≤ 4 := by omega
            have v30_m2 := Lib.hid v30_m
            clear v30_m v30_a v30_b
            have hcv : IntKind.u64.wrap v19_ = v19_ := IntWalk.u64_in _ (by omega)
            have hcw : v19_ % 18446744073709551616 = v19_ := by omega
            have Hv30_ := Lib.hid hv30_
            clear hv30_
            have hq31_a := Int.ediv_nonneg (show 0 ≤ (48 * p) by omega) (show 0 ≤ v30_ by omega)
            have hq31_b := Int.ediv_le_self v30_ (show 0 ≤ (48 * p) by omega)
            have hq31_ : IntKind.i64.wrap ((48 * p).tdiv v30_) = (48 * p) / v30_ := by rw [Int.tdiv_eq_ediv_of_nonneg (by omega)]; exact IntWalk.i64_in _ (by omega)
            have hq31_y : (v30_ == 0) = false := by simp only [beq_eq_false_iff_ne]; omega
            have hq31_z : (v30_ = 0) = False := eq_false (by omega)
            have hw32_ : IntKind.i64.wrap (48 * p) = (48 * p) := IntWalk.i64_in _ (by omega)
            have hw33_ : IntKind.i64.wrap (v29_ + ((48 * p) / v30_)) = (v29_ + ((48 * p) / v30_)) := IntWalk.i64_in _ (by omega)
            have c34_ := c28_
            have c34_f := G21_.soft q (by rw [fnRow_length]; omega)
            have c34_i : (q : Int) < (n : Int) := by omega
            have c34_j : (0 : Int) ≤ (q : Int) := by omega
            have g35_ : w.heap.size < w20.heap.size := (by first | omega | (simp; omega) | simp)
            have d36_ : Ints (w20.drew) (lo) (hi) (some ⟨b16_, f17_, none⟩) vs := k24_
            have d37_ : Grow (w20.drew) w.heap.size n (fnRow n (fun i => if i < q then passTo vs p n (k + 1) i else passTo vs p n k i)) := G21_
            have zd38_ : (w20.drew).heap.size = w20.heap.size := rfl
            go_wp2_with fail
            go_region_law (first | (go_simp; go_at_call 40; (with_reducible refine (same_is (onesCount_is v19_ _ (by omega) (by omega)) (congrArg (Value.int .i64) Hv30_.out)).mono ?_); rintro e w9 ⟨rfl, rfl⟩))
            all_goals
              clear hw32_ hw33_
              obtain ⟨w39, hw39⟩ : ∃ x, x = (w20.setCell ⟨w.heap.size, q, none⟩ (.int .i64 (v29_ + ((48 * p) / v30_)))).drew := ⟨_, rfl⟩
              rw [← hw39]
              have hC40_ : Chg w.heap.size (w.heap.size + 1) w20 w39 := by rw [hw39]; exact (Chg.setCell (lo := w.heap.size) (hi := w.heap.size + 1) w20 (p := ⟨w.heap.size, q, none⟩) ⟨Nat.le_refl _, Nat.lt_succ_self _⟩ (.int .i64 (v29_ + ((48 * p) / v30_)))).drewR
              have G41_ : Grow w39 w.heap.size n ((fnRow n (fun i => if i < q then passTo vs p n (k + 1) i else passTo vs p n k i)).set q (v29_ + ((48 * p) / v30_))) := by rw [hw39]; exact (G21_.store q (v29_ + ((48 * p) / v30_))).drew
              clear hw39
              have o42_ := k24_.chg hC40_ (by first | omega | (simp; omega) | simp) (by omega)
              have z43_ := hC40_.size
              have B44_ := k22_.trans (hC40_.below (by omega) (by first | omega | (simp; omega) | simp))
              clear hC40_
              have HL45_ : Hid (((fnRow n (fun i => if i < q then passTo vs p n (k + 1) i else passTo vs p n k i)).set q (v29_ + ((48 * p) / v30_))).length = n) := by show _ = _; rw [List.length_set]; first | rfl | omega | exact HL25_.out
              go_wp2
              go_roundw
              case rel => exact ⟨q + 1, by go_num, by omega, (by rw [← pass_step (o := v29_) (M := v30_) (by omega) HBT.out v30_m2.out.symm Hv29_.out]; exact G41_), B44_, (by first | omega | (simp; omega) | simp), o42_⟩
              case measure => simp [intOf] <;> omega
          · have H27_ := Lib.hid h27_
            clear h27_
            have HBF : Hid ((visAt vs k).testBit q = false) := by show _ = _; cases z : (visAt vs k).testBit q with | false => rfl | true => exact absurd ((bit_at HVB.out Hv19_.out).2 z) H27_.out
            go_wp2_with fail
            refine (isWithin_no q v19_ _ (by omega) (by omega) (by omega) H27_.out).mono ?_
            rintro e w' ⟨rfl, rfl⟩
            go_wp2
            go_roundw
            case rel => exact ⟨q + 1, by go_num, by omega, (by rw [← pass_skip HBF.out]; exact G21_), k22_, (by first | omega | (simp; omega) | simp), k24_⟩
            case measure => simp [intOf] <;> omega
        · have hqn : n ≤ q := by omega
          go_wp2
          go_roundw
          case rel => exact ⟨k + 1, by go_num, by omega, (by have e := G21_; rw [passRow_next vs p (show n ≤ q by omega)] at e; exact e), k22_, (by first | omega | (simp; omega) | simp), k24_⟩
          case measure => simp [intOf] <;> omega
    · obtain rfl : k = vs.length := by omega
      have hfin : passRow (n : Int) vs p = fnRow n (passTo vs p n vs.length) := by rw [passRow_yes HVB.out HPP.out]; rfl
      have HFIN := Lib.hid hfin
      clear hfin
      go_wp2
      go_ret
      rw [HFIN.out]
      (refine retInts_grow G10_ (by omega) ?_ k11_; rw [fnRow_length])

set_option maxRecDepth 10000 in
set_option maxHeartbeats 1000000 in
theorem implPassShares_no (N : Int) (A : Option Addr) (c : Nat) (vs : List Int) (p : Int) (w : World) (lo hi : Nat) (h : Ints w lo hi A vs) (hh : hi ≤ w.heap.size) (hl : vs.length ≤ 1000000000) (hb : visB N vs = false) :
    Calls Try.prog 17 #[.int .i64 N, .slice A vs.length c, .int .i64 p] w (RetInts w (passRow N vs p)) := by
  have HVB := Lib.hid hb
  clear hb
  have hhu := hh
  go_enter Try.func17, Try.ntmps17
  go_wp2_with fail
  refine (implVisits_same N A c vs _ _ _ h (by omega)).mono ?_
  rintro e w' ⟨he, rfl⟩
  rw [HVB.out] at he
  subst he
  go_wp2
  go_ret
  exact retInts_nil (by rw [passRow, HVB.out]; simp) (Below.refl _ _)

set_option maxRecDepth 10000 in
set_option maxHeartbeats 1000000 in
theorem implPassShares_far (N : Int) (A : Option Addr) (c : Nat) (vs : List Int) (p : Int) (w : World) (lo hi : Nat) (h : Ints w lo hi A vs) (hh : hi ≤ w.heap.size) (hl : vs.length ≤ 1000000000) (hb : visB N vs = true) (hp : ¬ (0 ≤ p ∧ p ≤ 12)) :
    Calls Try.prog 17 #[.int .i64 N, .slice A vs.length c, .int .i64 p] w (RetInts w (passRow N vs p)) := by
  have HVB := Lib.hid hb
  have HPP := Lib.hid hp
  clear hb hp
  have hhu := hh
  go_enter Try.func17, Try.ntmps17
  go_wp2_with fail
  refine (implVisits_same N A c vs _ _ _ h (by omega)).mono ?_
  rintro e w' ⟨he, rfl⟩
  rw [HVB.out] at he
  subst he
  go_wp2_with fail
  refine (isPrice_no p _ HPP.out).mono ?_
  rintro e w' ⟨rfl, rfl⟩
  go_wp2
  go_ret
  exact retInts_nil (by rw [passRow, if_neg (fun q => HPP.out q.2)]) (Below.refl _ _)

theorem implPassShares_any (N : Int) (A : Option Addr) (c : Nat) (vs : List Int) (p : Int) (w : World) (lo hi : Nat) (h : Ints w lo hi A vs) (hh : hi ≤ w.heap.size) (hl : vs.length ≤ 1000000000) :
    Calls Try.prog 17 #[.int .i64 N, .slice A vs.length c, .int .i64 p] w (RetInts w (passRow N vs p)) := by
  by_cases hb : visB N vs = true
  · by_cases hp : 0 ≤ p ∧ p ≤ 12
    · obtain ⟨n, rfl⟩ := vis_nat hb
      exact implPassShares_yes n A c vs p w lo hi h hh hl hb hp
    · exact implPassShares_far N A c vs p w lo hi h hh hl hb hp
  · exact implPassShares_no N A c vs p w lo hi h hh hl (by simpa using hb)

/-- What a set of houses brings. -/
def passAmt (vs : List Int) (p : Int) (s : Nat) : Int := p * worthP vs s
theorem passAmt_ok {n : Nat} {vs : List Int} (h : visB (n : Int) vs = true) {p : Int} (hp : 0 ≤ p ∧ p ≤ 12) : AmtOk (passAmt vs p) n := by
  constructor
  · intro s _
    have e := worthP_rg h s
    have e2 := Int.mul_le_mul hp.2 e.2 e.1 (show (0 : Int) ≤ 12 by omega)
    exact ⟨Int.mul_nonneg hp.1 e.1, by unfold passAmt; omega⟩
  · intro s k _ _
    refine Int.mul_le_mul_of_nonneg_left (sumN_each fun j _ => ?_) hp.1
    have e := inSet_rg (visAt vs j) (s ||| 2 ^ k)
    unfold inSet at e ⊢
    split
    · rename_i q
      have q2 : visAt vs j &&& (s ||| 2 ^ k) = visAt vs j := by
        apply Nat.eq_of_testBit_eq
        intro i
        have q3 : ((visAt vs j) &&& s).testBit i = (visAt vs j).testBit i := by rw [q.2]
        rw [Nat.testBit_and] at q3
        rw [Nat.testBit_and, Nat.testBit_or]
        revert q3
        cases (visAt vs j).testBit i <;> cases s.testBit i <;> simp
      rw [if_pos ⟨q.1, q2⟩]; exact Int.le_refl _
    · exact e.1
theorem set_come (os : List Int) : ∀ q, setTo os q = comeTo os q
  | 0 => rfl
  | q + 1 => by simp only [setTo, comeTo]; rw [set_come os q]
theorem rise_bring (vs : List Int) (p : Int) (os : List Int) (i : Nat) : ∀ q, riseTo (passAmt vs p) os i q = bringTo vs p os i q
  | 0 => rfl
  | q + 1 => by
    simp only [riseTo, bringTo]
    rw [rise_bring vs p os i q, set_come, set_come]
    unfold passAmt
    rw [← Int.mul_sub, Int.mul_assoc]
theorem mean_pass {n : Nat} {vs : List Int} (h : visB (n : Int) vs = true) {p : Int} (hp : 0 ≤ p ∧ p ≤ 12) : meanRow (risesR (passAmt vs p) n) n = passRow (n : Int) vs p := by
  rw [passRow_yes h hp]
  refine fnRow_congr fun i hi => ?_
  rw [mean_rises (vis_n h).2.1 hi, ← bring_mean h p hi]
  congr 2
  exact List.map_congr_left fun o _ => rise_bring vs p o i n

theorem mul_amt {a b : Int} (ha : 0 ≤ a ∧ a ≤ 12) (hb : 0 ≤ b ∧ b ≤ 6) : 0 ≤ a * b ∧ a * b ≤ 72 := by
  constructor
  · exact Int.mul_nonneg ha.1 hb.1
  · have e := Int.mul_le_mul ha.2 hb.2 hb.1 (show (0 : Int) ≤ 12 by omega)
    omega

set_option maxRecDepth 10000 in
set_option maxHeartbeats 1000000 in
theorem passAmt_any (n : Nat) (A : Option Addr) (c : Nat) (vs : List Int) (p : Int) (s Bp Bn Bv : Nat) (w : World) (lo hi : Nat) (h : Ints w lo hi A vs) (hh : hi ≤ w.heap.size) (hl : vs.length ≤ 1000000000) (h1 : w.cell? ⟨Bp, 0, none⟩ = some (.int .i64 p)) (h2 : w.cell? ⟨Bn, 0, none⟩ = some (.int .i64 (n : Int))) (h3 : w.cell? ⟨Bv, 0, none⟩ = some (.slice A vs.length c)) (hbp : Bp < w.heap.size) (hbn : Bn < w.heap.size) (hbv : Bv < w.heap.size) (hb : visB (n : Int) vs = true) (hp : 0 ≤ p ∧ p ≤ 12) (hs : s < 2 ^ n) :
    Calls Try.prog 43 #[.int .i64 (s : Int), .pointer (some ⟨Bp, 0, none⟩), .pointer (some ⟨Bn, 0, none⟩), .pointer (some ⟨Bv, 0, none⟩)] w fun e w' => e = .returned (.int .i64 (passAmt vs p s)) ∧ Below w.heap.size w w' := by
  have HVB := Lib.hid hb
  have hvn := vis_n hb
  obtain ⟨hn1, hn4, hv6⟩ := hvn
  obtain ⟨hpw1, hpw2⟩ := pow_bd hn4
  have hpn := pow16 hn4
  obtain ⟨hpn1, hpn2⟩ := hpn
  have HV := Lib.hid (vis_rg hb)
  clear hb
  have hhu := hh
  go_enter Try.func43, Try.ntmps43
  obtain ⟨v1_, hv1_⟩ : ∃ v, worthP vs s = v := ⟨_, rfl⟩
  have v1_g := worthP_rg HVB.out s
  rw [hv1_] at v1_g
  obtain ⟨v1_g1, v1_g2⟩ := v1_g
  have Hv1_ := Lib.hid hv1_
  clear hv1_
  obtain ⟨P2_, hP2_⟩ : ∃ P, p * v1_ = P := ⟨_, rfl⟩
  have bP2_ := (mul_amt (a := p) (b := v1_) (by omega) (by omega) : 0 ≤ p * v1_ ∧ p * v1_ ≤ 72)
  rw [hP2_] at bP2_
  obtain ⟨bP2_, bP2_'⟩ := bP2_
  have wP2_ : IntKind.i64.wrap P2_ = P2_ := IntWalk.i64_in _ (by omega)
  have hw3_ : IntKind.i64.wrap P2_ = P2_ := IntWalk.i64_in _ (by omega)
  go_wp2
  go_quiet ((go_at_call 21; exact quiet_left1 (same_is (implPassWorth_in n A c vs s _ _ _ h (by omega) HVB.out (by omega)) (congrArg (Value.int .i64) Hv1_.out))))
  obtain ⟨w4, hw4⟩ : ∃ x, x = w.drewN nq := ⟨_, rfl⟩
  have hb5_ : Below w.heap.size w w4 := by rw [hw4]; exact below_drewN (Below.refl _ _) _
  rw [← hw4]
  clear hw4
  clear hw3_
  have o7_ := h.below hb5_ (by first | omega | (simp; omega) | simp)
  have o8_ := (hb5_.cell (p := ⟨Bp, 0, none⟩) (by first | omega | (simp; omega) | simp)).trans h1
  have o9_ := (hb5_.cell (p := ⟨Bn, 0, none⟩) (by first | omega | (simp; omega) | simp)).trans h2
  have o10_ := (hb5_.cell (p := ⟨Bv, 0, none⟩) (by first | omega | (simp; omega) | simp)).trans h3
  have z11_ := hb5_.size
  have B12_ := (Below.refl w.heap.size w).trans (hb5_.mono (by first | omega | (simp; omega) | simp))
  clear hb5_
  go_wp2
  go_ret
  exact ⟨ret_int (by unfold passAmt; rw [Hv1_.out, hP2_]), B12_⟩

theorem passAmt_of {n : Nat} {A : Option Addr} {c : Nat} {vs : List Int} {p : Int} {Bp Bn Bv : Nat} {w0 : World} {lo hi : Nat} (h : Ints w0 lo hi A vs) (hh : hi ≤ w0.heap.size) (h1 : w0.cell? ⟨Bp, 0, none⟩ = some (.int .i64 p)) (h2 : w0.cell? ⟨Bn, 0, none⟩ = some (.int .i64 (n : Int))) (h3 : w0.cell? ⟨Bv, 0, none⟩ = some (.slice A vs.length c)) (hbp : Bp < w0.heap.size) (hbn : Bn < w0.heap.size) (hbv : Bv < w0.heap.size) (hb : visB (n : Int) vs = true) (hp : 0 ≤ p ∧ p ≤ 12) :
    AmtOf 43 #[.pointer (some ⟨Bp, 0, none⟩), .pointer (some ⟨Bn, 0, none⟩), .pointer (some ⟨Bv, 0, none⟩)] n (passAmt vs p) w0 := by
  intro s w hs hB
  have z := hB.size
  have e := vis_n hb
  exact passAmt_any n A c vs p s Bp Bn Bv w lo hi (h.below hB hh) (by omega) (by omega) ((hB.cell (p := ⟨Bp, 0, none⟩) hbp).trans h1) ((hB.cell (p := ⟨Bn, 0, none⟩) hbn).trans h2) ((hB.cell (p := ⟨Bv, 0, none⟩) hbv).trans h3) (by omega) (by omega) (by omega) hb hp hs

set_option maxRecDepth 10000 in
set_option maxHeartbeats 2000000 in
theorem implPassOrders_yes (n : Nat) (A : Option Addr) (c : Nat) (vs : List Int) (p : Int) (w : World) (lo hi : Nat) (h : Ints w lo hi A vs) (hh : hi ≤ w.heap.size) (hl : vs.length ≤ 1000000000) (hb : visB (n : Int) vs = true) (hp : 0 ≤ p ∧ p ≤ 12) :
    Calls Try.prog 22 #[.int .i64 (n : Int), .slice A vs.length c, .int .i64 p] w (RetInts w (passRow (n : Int) vs p)) := by
  have HVB := Lib.hid hb
  have hvn := vis_n hb
  obtain ⟨hn1, hn4, hv6⟩ := hvn
  obtain ⟨hpw1, hpw2⟩ := pow_bd hn4
  have hpn := pow16 hn4
  obtain ⟨hpn1, hpn2⟩ := hpn
  have HV := Lib.hid (vis_rg hb)
  clear hb
  have HPP := Lib.hid hp
  obtain ⟨hp0, hp1⟩ := hp
  go_enter Try.func22, Try.ntmps22
  have o1_ := h.alloc (by first | omega | (simp; omega) | simp) (.cells #[.int .i64 (n : Int)] 3)
  have B2_ := (Below.refl w.heap.size w).alloc (Nat.le_refl _) (.cells #[.int .i64 (n : Int)] 3)
  have a3_ : (w.alloc (.cells #[.int .i64 (n : Int)] 3)).cell? ⟨w.heap.size, 0, none⟩ = some (.int .i64 (n : Int)) := by simp [go_sem]
  have o4_ := o1_.alloc (by first | omega | (simp; omega) | simp) (.cells #[.slice A vs.length c] 23)
  have o5_ := cell_alloc (o := (.cells #[.slice A vs.length c] 23)) a3_ (by first | omega | (simp; omega) | simp)
  have B6_ := B2_.alloc (by first | omega | (simp; omega) | simp) (.cells #[.slice A vs.length c] 23)
  have a7_ : ((w.alloc (.cells #[.int .i64 (n : Int)] 3)).alloc (.cells #[.slice A vs.length c] 23)).cell? ⟨w.heap.size + 1, 0, none⟩ = some (.slice A vs.length c) := by simp [go_sem]
  have o8_ := o4_.alloc (by first | omega | (simp; omega) | simp) (.cells #[.int .i64 p] 3)
  have o9_ := cell_alloc (o := (.cells #[.int .i64 p] 3)) o5_ (by first | omega | (simp; omega) | simp)
  have o10_ := cell_alloc (o := (.cells #[.int .i64 p] 3)) a7_ (by first | omega | (simp; omega) | simp)
  have B11_ := B6_.alloc (by first | omega | (simp; omega) | simp) (.cells #[.int .i64 p] 3)
  have a12_ : (((w.alloc (.cells #[.int .i64 (n : Int)] 3)).alloc (.cells #[.slice A vs.length c] 23)).alloc (.cells #[.int .i64 p] 3)).cell? ⟨w.heap.size + 2, 0, none⟩ = some (.int .i64 p) := by simp [go_sem]
  go_wp2_with fail
  refine (implVisits_same (n : Int) A c vs _ _ _ o8_ (by omega)).mono ?_
  rintro e w' ⟨he, rfl⟩
  rw [HVB.out] at he
  subst he
  go_wp2_with fail
  refine (isPrice_yes p _ HPP.out).mono ?_
  rintro e w' ⟨rfl, rfl⟩
  have hE : Enters Try.prog 43 := enters_of Try.func43 (by kernel_rfl) rfl
  have e9 := meanRises_any (w := (((w.alloc (.cells #[.int .i64 (n : Int)] 3)).alloc (.cells #[.slice A vs.length c] 23)).alloc (.cells #[.int .i64 p] 3))) hE (passAmt_of (Bp := w.heap.size + 2) (Bn := w.heap.size) (Bv := w.heap.size + 1) o8_ (by first | omega | (simp; omega) | simp) a12_ o9_ o10_ (by first | omega | (simp; omega) | simp) (by first | omega | (simp; omega) | simp) (by first | omega | (simp; omega) | simp) HVB.out HPP.out) (passAmt_ok HVB.out HPP.out) (by omega) (by omega)
  rw [mean_pass HVB.out HPP.out] at e9
  have E9 := Lib.hid e9
  clear e9 hE
  have hmf : ∀ (fn : Fn) (first cap : Array Value) (w : World), (Instr.makeFunc fn first cap).run Try.prog w = .ok (.func fn first cap) w := fun _ _ _ _ => rfl
  go_wp2_with fail
  refine E9.out.mono ?_
  rintro e w13 ⟨A14_, c15_, rfl, ho16_, hb17_⟩
  clear hmf
  have ho16_ : Own w13 (w.heap.size + 3) w13.heap.size A14_ (passRow (n : Int) vs p) := ho16_.more (by simp) (Nat.le_refl _)
  have o18_ := o8_.below hb17_ (by first | omega | (simp; omega) | simp)
  have o19_ := (hb17_.cell (p := ⟨w.heap.size, 0, none⟩) (by first | omega | (simp; omega) | simp)).trans o9_
  have o20_ := (hb17_.cell (p := ⟨w.heap.size + 1, 0, none⟩) (by first | omega | (simp; omega) | simp)).trans o10_
  have o21_ := (hb17_.cell (p := ⟨w.heap.size + 2, 0, none⟩) (by first | omega | (simp; omega) | simp)).trans a12_
  have z22_ := hb17_.size
  try simp at z22_
  have B23_ := B11_.trans (hb17_.mono (by first | omega | (simp; omega) | simp))
  clear hb17_
  go_wp2
  go_ret
  exact ⟨A14_, c15_, rfl, ho16_.more (by omega) (Nat.le_refl _), B23_⟩

set_option maxRecDepth 10000 in
set_option maxHeartbeats 1000000 in
theorem implPassOrders_no (N : Int) (A : Option Addr) (c : Nat) (vs : List Int) (p : Int) (w : World) (lo hi : Nat) (h : Ints w lo hi A vs) (hh : hi ≤ w.heap.size) (hl : vs.length ≤ 1000000000) (hb : visB N vs = false) :
    Calls Try.prog 22 #[.int .i64 N, .slice A vs.length c, .int .i64 p] w (RetInts w (passRow N vs p)) := by
  have HVB := Lib.hid hb
  clear hb
  have hhu := hh
  go_enter Try.func22, Try.ntmps22
  have o1_ := h.alloc (by first | omega | (simp; omega) | simp) (.cells #[.int .i64 N] 3)
  have B2_ := (Below.refl w.heap.size w).alloc (Nat.le_refl _) (.cells #[.int .i64 N] 3)
  have a3_ : (w.alloc (.cells #[.int .i64 N] 3)).cell? ⟨w.heap.size, 0, none⟩ = some (.int .i64 N) := by simp [go_sem]
  have o4_ := o1_.alloc (by first | omega | (simp; omega) | simp) (.cells #[.slice A vs.length c] 23)
  have o5_ := cell_alloc (o := (.cells #[.slice A vs.length c] 23)) a3_ (by first | omega | (simp; omega) | simp)
  have B6_ := B2_.alloc (by first | omega | (simp; omega) | simp) (.cells #[.slice A vs.length c] 23)
  have a7_ : ((w.alloc (.cells #[.int .i64 N] 3)).alloc (.cells #[.slice A vs.length c] 23)).cell? ⟨w.heap.size + 1, 0, none⟩ = some (.slice A vs.length c) := by simp [go_sem]
  have o8_ := o4_.alloc (by first | omega | (simp; omega) | simp) (.cells #[.int .i64 p] 3)
  have o9_ := cell_alloc (o := (.cells #[.int .i64 p] 3)) o5_ (by first | omega | (simp; omega) | simp)
  have o10_ := cell_alloc (o := (.cells #[.int .i64 p] 3)) a7_ (by first | omega | (simp; omega) | simp)
  have B11_ := B6_.alloc (by first | omega | (simp; omega) | simp) (.cells #[.int .i64 p] 3)
  have a12_ : (((w.alloc (.cells #[.int .i64 N] 3)).alloc (.cells #[.slice A vs.length c] 23)).alloc (.cells #[.int .i64 p] 3)).cell? ⟨w.heap.size + 2, 0, none⟩ = some (.int .i64 p) := by simp [go_sem]
  go_wp2_with fail
  refine (implVisits_same N A c vs _ _ _ o8_ (by omega)).mono ?_
  rintro e w' ⟨he, rfl⟩
  rw [HVB.out] at he
  subst he
  go_wp2
  go_ret
  exact retInts_nil (by rw [passRow, HVB.out]; simp) B11_

set_option maxRecDepth 10000 in
set_option maxHeartbeats 1000000 in
theorem implPassOrders_far (N : Int) (A : Option Addr) (c : Nat) (vs : List Int) (p : Int) (w : World) (lo hi : Nat) (h : Ints w lo hi A vs) (hh : hi ≤ w.heap.size) (hl : vs.length ≤ 1000000000) (hb : visB N vs = true) (hp : ¬ (0 ≤ p ∧ p ≤ 12)) :
    Calls Try.prog 22 #[.int .i64 N, .slice A vs.length c, .int .i64 p] w (RetInts w (passRow N vs p)) := by
  have HVB := Lib.hid hb
  have HPP := Lib.hid hp
  clear hb hp
  have hhu := hh
  go_enter Try.func22, Try.ntmps22
  have o1_ := h.alloc (by first | omega | (simp; omega) | simp) (.cells #[.int .i64 N] 3)
  have B2_ := (Below.refl w.heap.size w).alloc (Nat.le_refl _) (.cells #[.int .i64 N] 3)
  have a3_ : (w.alloc (.cells #[.int .i64 N] 3)).cell? ⟨w.heap.size, 0, none⟩ = some (.int .i64 N) := by simp [go_sem]
  have o4_ := o1_.alloc (by first | omega | (simp; omega) | simp) (.cells #[.slice A vs.length c] 23)
  have o5_ := cell_alloc (o := (.cells #[.slice A vs.length c] 23)) a3_ (by first | omega | (simp; omega) | simp)
  have B6_ := B2_.alloc (by first | omega | (simp; omega) | simp) (.cells #[.slice A vs.length c] 23)
  have a7_ : ((w.alloc (.cells #[.int .i64 N] 3)).alloc (.cells #[.slice A vs.length c] 23)).cell? ⟨w.heap.size + 1, 0, none⟩ = some (.slice A vs.length c) := by simp [go_sem]
  have o8_ := o4_.alloc (by first | omega | (simp; omega) | simp) (.cells #[.int .i64 p] 3)
  have o9_ := cell_alloc (o := (.cells #[.int .i64 p] 3)) o5_ (by first | omega | (simp; omega) | simp)
  have o10_ := cell_alloc (o := (.cells #[.int .i64 p] 3)) a7_ (by first | omega | (simp; omega) | simp)
  have B11_ := B6_.alloc (by first | omega | (simp; omega) | simp) (.cells #[.int .i64 p] 3)
  have a12_ : (((w.alloc (.cells #[.int .i64 N] 3)).alloc (.cells #[.slice A vs.length c] 23)).alloc (.cells #[.int .i64 p] 3)).cell? ⟨w.heap.size + 2, 0, none⟩ = some (.int .i64 p) := by simp [go_sem]
  go_wp2_with fail
  refine (implVisits_same N A c vs _ _ _ o8_ (by omega)).mono ?_
  rintro e w' ⟨he, rfl⟩
  rw [HVB.out] at he
  subst he
  go_wp2_with fail
  refine (isPrice_no p _ HPP.out).mono ?_
  rintro e w' ⟨rfl, rfl⟩
  go_wp2
  go_ret
  exact retInts_nil (by rw [passRow, if_neg (fun q => HPP.out q.2)]) B11_

theorem implPassOrders_any (N : Int) (A : Option Addr) (c : Nat) (vs : List Int) (p : Int) (w : World) (lo hi : Nat) (h : Ints w lo hi A vs) (hh : hi ≤ w.heap.size) (hl : vs.length ≤ 1000000000) :
    Calls Try.prog 22 #[.int .i64 N, .slice A vs.length c, .int .i64 p] w (RetInts w (passRow N vs p)) := by
  by_cases hb : visB N vs = true
  · by_cases hp : 0 ≤ p ∧ p ≤ 12
    · obtain ⟨n, rfl⟩ := vis_nat hb
      exact implPassOrders_yes n A c vs p w lo hi h hh hl hb hp
    · exact implPassOrders_far N A c vs p w lo hi h hh hl hb hp
  · exact implPassOrders_no N A c vs p w lo hi h hh hl (by simpa using hb)


end Go.Proofs.Ytdbohnaohinieaa
