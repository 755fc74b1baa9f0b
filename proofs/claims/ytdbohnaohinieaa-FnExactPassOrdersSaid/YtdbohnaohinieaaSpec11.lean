/-
  Chapter 11, the given package's functions: VisitsOk, PassShares, PassWorth, PassOrders. Premises: lengths that fit.
-/
import Derived.Test.YtdbohnaohinieaaPass
import Derived.Test.YtdbohnaohinieaaSpec6
import Derived.Test.YtdbohnaohinieaaSpec7C
import Derived.Test.YtdbohnaohinieaaTill
import Derived.BigQuiet
import Derived.Deep.Cut
namespace Go.Proofs.Ytdbohnaohinieaa
open Go.RowKit

def clampN (N : Int) : Nat := (min (max N 0) 4).toNat
/-- The first k passes are some of these houses. -/
def VisTo (N : Int) (vs : List Int) (k : Nat) : Prop := ∀ j, j < k → 0 ≤ vs.getD j 0 ∧ vs.getD j 0 < 2 ^ clampN N
theorem VisTo.zero (N : Int) (vs : List Int) : VisTo N vs 0 := fun _ h => absurd h (by omega)
theorem VisTo.more {N : Int} {vs : List Int} {k : Nat} (h : VisTo N vs k) (e : 0 ≤ vs.getD k 0 ∧ vs.getD k 0 < 2 ^ clampN N) : VisTo N vs (k + 1) := fun j hj => by
  rcases Nat.lt_or_ge j k with q | q
  · exact h j q
  · obtain rfl : j = k := by omega
    exact e
theorem clamp_in {N : Int} (h1 : 1 ≤ N) (h4 : N ≤ 4) : clampN N = N.toNat := by unfold clampN; omega
theorem vis_yes {N : Int} {vs : List Int} (h : VisTo N vs vs.length) (h1 : 1 ≤ N) (h4 : N ≤ 4) (h6 : vs.length ≤ 6) : visB N vs = true := (visB_iff N vs).2 ⟨h1, h4, h6, fun v hv => by
  obtain ⟨j, hj, rfl⟩ := List.mem_iff_getElem.1 hv
  have e := h j hj
  rwa [getD_of_lt vs j hj, clamp_in h1 h4] at e⟩
theorem vis_clamp {N : Int} {vs : List Int} (h : visB N vs = true) (k : Nat) : 0 ≤ vs.getD k 0 ∧ vs.getD k 0 < 2 ^ clampN N := by
  have e := (visB_iff N vs).1 h
  obtain ⟨n, rfl⟩ : ∃ n : Nat, N = (n : Int) := ⟨N.toNat, by omega⟩
  have q := vis_rg h k
  rwa [clamp_in e.1 e.2.1, Int.toNat_natCast]
theorem vis_no {N : Int} {vs : List Int} (h : ¬ visB N vs = true) : visB N vs = false := by simpa using h

set_option maxRecDepth 10000 in
set_option maxHeartbeats 1000000 in
theorem specVisitsOk_any (N : Int) (A : Option Addr) (c : Nat) (vs : List Int) (w : World) (lo hi : Nat) (h : Ints w lo hi A vs) (hh : hi ≤ w.heap.size) (hl : vs.length ≤ 1152921504606846976) :
    Calls Try.prog 14 #[.int .i64 N, .slice A vs.length c] w fun e w' => e = .returned (.bool (visB N vs)) ∧ Below w.heap.size w w' := by
  go_enter Try.func14, Try.ntmps14
  go_wp2
  go_loopw [5] (fun i wr => ∃ k : Nat, i = .int .i64 k ∧ (k ≤ vs.length) ∧ (VisTo N vs k) ∧ Below w.heap.size w wr ∧ w.heap.size ≤ wr.heap.size ∧ Ints wr (lo) (hi) A vs) (fun i _ => vs.length - (intOf i).toNat)
  case atStart => exact ⟨0, rfl, Nat.zero_le _, VisTo.zero N vs, (Below.refl w.heap.size w), (by first | omega | (simp; omega) | simp), h⟩
  case round =>
    obtain ⟨k, rfl, hk, hvt, k2_, k3_, k4_⟩ := hrel
    obtain ⟨w1, rfl⟩ : ∃ x, x = wr := ⟨_, rfl⟩
    have HVT := Lib.hid hvt
    clear hvt
    by_cases hlt0 : k < vs.length
    · obtain ⟨b5_, f6_, rfl, _, b5_h, -⟩ := k4_ (by omega)
      have c7_ : w1.cell? ⟨b5_, f6_ + k, none⟩ = some (.int .i64 (vs.getD k 0)) := k4_.at2 k (by first | omega | (simp; omega) | simp)
      have c7_i : (k : Int) < (vs.length : Int) := by omega
      have c7_j : (0 : Int) ≤ (k : Int) := by omega
      obtain ⟨v8_, hv8_⟩ : ∃ v, v = vs.getD k 0 := ⟨_, rfl⟩
      rw [← hv8_] at c7_
      have Hv8_ := Lib.hid hv8_
      clear hv8_
      obtain ⟨m9_, hm9_⟩ : ∃ m : Int, (if 0 > N then 0 else N) = m := ⟨_, rfl⟩
      have hm9_x : max N 0 = m9_ := by rw [← hm9_]; split <;> omega
      have Hm9_ := Lib.hid hm9_x
      have m9_l : m9_ ≥ N := by have e := Hm9_.out; omega
      have m9_u : m9_ ≥ 0 := by have e := Hm9_.out; omega
      have m9_o : m9_ = N ∨ m9_ = 0 := by have e := Hm9_.out; omega
      obtain ⟨p, hp⟩ : ∃ p : Nat, (if (4 : Int) < m9_ then 4 else m9_) = (p : Int) := ⟨(min m9_ 4).toNat, by have e := Hm9_.out; split <;> omega⟩
      have hp4 : p ≤ 4 := by split at hp <;> omega
      have hpm : min m9_ 4 = (p : Int) := by have e := hp; split at e <;> omega
      have hpc : p = clampN N := by have e := Hm9_.out; unfold clampN; split at hp <;> omega
      have HPC := Lib.hid hpc
      clear hpc
      obtain ⟨hpw1, hpw2⟩ := pow_bd hp4
      by_cases h10_ : 0 ≤ v8_ ∧ v8_ ≤ ((2 ^ p) - 1)
      · have H10_ := Lib.hid h10_
        clear h10_
        obtain ⟨H10_a, H10_b⟩ := H10_.out
        have hw11_ : IntKind.i64.wrap (2 ^ p) = (2 ^ p) := IntWalk.i64_in _ (by omega)
        have hw12_ : IntKind.i64.wrap ((2 ^ p) - 1) = ((2 ^ p) - 1) := IntWalk.i64_in _ (by omega)
        go_wp2
        go_quiet ((go_at_call 35; exact quiet_left1 (l1In_yes _ _ _ _ H10_.out)))
        obtain ⟨w13, hw13⟩ : ∃ x, x = w1.drewN nq := ⟨_, rfl⟩
        have hb14_ : Below w1.heap.size w1 w13 := by rw [hw13]; exact below_drewN (Below.refl _ _) _
        rw [← hw13]
        clear hw13
        clear hw11_ hw12_
        have o16_ := k4_.below hb14_ (by first | omega | (simp; omega) | simp)
        have z17_ := hb14_.size
        have B18_ := k2_.trans (hb14_.mono (by first | omega | (simp; omega) | simp))
        clear hb14_
        go_wp2
        go_roundw
        case rel => exact ⟨k + 1, by go_num, by omega, HVT.out.more (by rw [← HPC.out, ← Hv8_.out]; have e := H10_.out; omega), B18_, (by first | omega | (simp; omega) | simp), o16_⟩
        case measure => simp [intOf] <;> omega
      · have H10_ := Lib.hid h10_
        clear h10_
        have hw11_ : IntKind.i64.wrap (2 ^ p) = (2 ^ p) := IntWalk.i64_in _ (by omega)
        have hw12_ : IntKind.i64.wrap ((2 ^ p) - 1) = ((2 ^ p) - 1) := IntWalk.i64_in _ (by omega)
        go_wp2
        go_quiet ((go_at_call 35; exact quiet_left1 (l1In_no _ _ _ _ H10_.out)))
        obtain ⟨w13, hw13⟩ : ∃ x, x = w1.drewN nq := ⟨_, rfl⟩
        have hb14_ : Below w1.heap.size w1 w13 := by rw [hw13]; exact below_drewN (Below.refl _ _) _
        rw [← hw13]
        clear hw13
        clear hw11_ hw12_
        have o16_ := k4_.below hb14_ (by first | omega | (simp; omega) | simp)
        have z17_ := hb14_.size
        have B18_ := k2_.trans (hb14_.mono (by first | omega | (simp; omega) | simp))
        clear hb14_
        go_wp2
        go_ret
        exact ⟨ret_bool (vis_no (fun q => H10_.out (by have e := vis_clamp q k; rw [← HPC.out, ← Hv8_.out] at e; omega))).symm, B18_⟩
    · obtain rfl : k = vs.length := by omega
      by_cases h5_ : 1 ≤ N ∧ N ≤ 4
      · have H5_ := Lib.hid h5_
        clear h5_
        obtain ⟨H5_a, H5_b⟩ := H5_.out
        go_wp2_with fail
        refine (l1In_yes _ _ _ _ H5_.out).mono ?_
        rintro e w' ⟨rfl, rfl⟩
        by_cases h6_ : (vs.length : Int) ≤ 6
        · have h6_d : decide ((vs.length : Int) ≤ 6) = true := decide_eq_true h6_
          go_wp2
          go_ret
          exact ⟨ret_bool (by first | exact (vis_yes HVT.out (by omega) (by omega) (by omega)).symm | exact (decide_eq_true (by omega)).trans (vis_yes HVT.out (by omega) (by omega) (by omega)).symm), k2_⟩
        · have h6_d : decide ((vs.length : Int) ≤ 6) = false := decide_eq_false h6_
          go_wp2
          go_ret
          exact ⟨ret_bool (by first | exact (vis_no (fun q => by have e := (visB_iff _ _).1 q; omega)).symm | exact (decide_eq_false (by omega)).trans (vis_no (fun q => by have e := (visB_iff _ _).1 q; omega)).symm), k2_⟩
      · have H5_ := Lib.hid h5_
        clear h5_
        go_wp2_with fail
        refine (l1In_no _ _ _ _ H5_.out).mono ?_
        rintro e w' ⟨rfl, rfl⟩
        go_wp2
        go_ret
        exact ⟨ret_bool (vis_no (fun q => H5_.out (by have e := (visB_iff _ _).1 q; omega))).symm, k2_⟩

/-- What PassWorth returns. -/
def passW (N : Int) (vs : List Int) (s : Int) : Int := if visB N vs = true ∧ 0 ≤ s ∧ s < 2 ^ N.toNat then worthP vs s.toNat else -1
theorem andNot_in : ∀ m t : Fin 16, bits .andNot .i64 (m.val : Int) (t.val : Int) = 0 ↔ m.val &&& t.val = m.val := by decide +kernel
theorem andNot_zero {m t : Nat} (hm : m < 16) (ht : t < 16) : bits .andNot .i64 (m : Int) (t : Int) = 0 ↔ m &&& t = m := andNot_in ⟨m, hm⟩ ⟨t, ht⟩
theorem worth_zero {vs : List Int} {t k : Nat} {v : Int} (hv : v = vs.getD k 0) (h0 : v = 0) : inSet (visAt vs k) t = 0 := by
  unfold inSet visAt; rw [← hv, h0]; exact if_neg (fun q => q.1 rfl)
theorem worth_bit {n : Nat} {vs : List Int} (hb : visB (n : Int) vs = true) {t k : Nat} (ht : t < 16) {v B : Int} (hv : v = vs.getD k 0) (h0 : ¬ v = 0) (hB : bits .andNot .i64 v (t : Int) = B) : inSet (visAt vs k) t = if B = 0 then 1 else 0 := by
  have e := visAt_is hb k
  have e1 := visAt_lt hb k
  have e2 := vis_n hb
  have e3 := pow16 e2.2.1
  rw [← hv] at e
  rw [e] at hB h0
  have q := andNot_zero (m := visAt vs k) (t := t) (by omega) ht
  rw [hB] at q
  unfold inSet
  by_cases z : B = 0
  · rw [if_pos z, if_pos ⟨by omega, q.1 z⟩]
  · rw [if_neg z, if_neg (fun y => z (q.2 y.2))]

set_option maxRecDepth 10000 in
set_option maxHeartbeats 1000000 in
theorem specPassWorth_in (n : Nat) (A : Option Addr) (c : Nat) (vs : List Int) (t : Nat) (w : World) (lo hi : Nat) (h : Ints w lo hi A vs) (hh : hi ≤ w.heap.size) (hl : vs.length ≤ 1152921504606846976) (hb : visB (n : Int) vs = true) (ht : t < 2 ^ n) :
    Calls Try.prog 24 #[.int .i64 (n : Int), .slice A vs.length c, .int .i64 (t : Int)] w fun e w' => e = .returned (.int .i64 (worthP vs t)) ∧ Below w.heap.size w w' := by
  have HVB := Lib.hid hb
  have hvn := vis_n hb
  obtain ⟨hn1, hn4, hv6⟩ := hvn
  obtain ⟨hpw1, hpw2⟩ := pow_bd hn4
  have hpn := pow16 hn4
  obtain ⟨hpn1, hpn2⟩ := hpn
  have HV := Lib.hid (vis_rg hb)
  clear hb
  have HTI : Hid (0 ≤ (t : Int) ∧ (t : Int) ≤ ((2 ^ n) - 1)) := ⟨by omega, by have e := powI (n := n); omega⟩
  have ht16 : t < 16 := by omega
  go_enter Try.func24, Try.ntmps24
  go_wp2_with fail
  refine (specVisitsOk_any (n : Int) A c vs _ _ _ h (by first | omega | (simp; omega) | simp) (by omega)).mono ?_
  rintro e w1 ⟨he, hb1_⟩
  rw [HVB.out] at he
  subst he
  have o2_ := h.below hb1_ (by first | omega | (simp; omega) | simp)
  have z3_ := hb1_.size
  have B4_ := (Below.refl w.heap.size w).trans (hb1_.mono (by first | omega | (simp; omega) | simp))
  clear hb1_
  go_wp2_with fail
  refine (l1In_yes _ _ _ _ HTI.out).mono ?_
  rintro e w' ⟨rfl, rfl⟩
  go_wp2
  go_loopw [7, 8] (fun cc i wr => ∃ k : Nat, ∃ C : Int, cc = .int .i64 C ∧ i = .int .i64 k ∧ (k ≤ vs.length) ∧ (C = worthTo' vs t k) ∧ Below w.heap.size w wr ∧ w1.heap.size ≤ wr.heap.size ∧ Ints wr (lo) (hi) A vs) (fun cc i _ => vs.length - (intOf i).toNat)
  case atStart => exact ⟨0, 0, rfl, rfl, Nat.zero_le _, rfl, B4_, (by first | omega | (simp; omega) | simp), o2_⟩
  case round =>
    obtain ⟨k, C, rfl, rfl, hk, hC, k6_, k7_, k8_⟩ := hrel
    obtain ⟨w5, rfl⟩ : ∃ x, x = wr := ⟨_, rfl⟩
    have hCb := worthTo'_rg vs t k
    rw [← hC] at hCb
    obtain ⟨hCb1, hCb2⟩ := hCb
    have HC := Lib.hid hC
    clear hC
    by_cases hlt0 : k < vs.length
    · obtain ⟨b9_, f10_, rfl, _, b9_h, -⟩ := k8_ (by omega)
      have c11_ : w5.cell? ⟨b9_, f10_ + k, none⟩ = some (.int .i64 (vs.getD k 0)) := k8_.at2 k (by first | omega | (simp; omega) | simp)
      have c11_i : (k : Int) < (vs.length : Int) := by omega
      have c11_j : (0 : Int) ≤ (k : Int) := by omega
      have v12_g := (HV.out k : 0 ≤ vs.getD k 0 ∧ vs.getD k 0 < 2 ^ n)
      obtain ⟨v12_, hv12_⟩ : ∃ v, v = vs.getD k 0 := ⟨_, rfl⟩
      rw [← hv12_] at c11_ v12_g
      have Hv12_ := Lib.hid hv12_
      clear hv12_
      obtain ⟨v12_g1, v12_g2⟩ := v12_g
      by_cases h13_ : v12_ = 0
      · have h13_b : (v12_ == 0) = true := by simpa using h13_
        have h13_n : (v12_ != 0) = false := by simpa using h13_
        have h13_le : v12_ ≤ 0 := by omega
        have h13_ge : 0 ≤ v12_ := by omega
        have Hh13_ := Lib.hid h13_
        clear h13_
        go_wp2
        go_roundw
        case rel => exact ⟨k + 1, C, by go_num, by go_num, by omega, by show _ = worthTo' vs t k + inSet (visAt vs k) t; rw [← HC.out]; rw [worth_zero Hv12_.out Hh13_.out]; omega, k6_, (by first | omega | (simp; omega) | simp), k8_⟩
        case measure => simp [intOf] <;> omega
      · have h13_b : (v12_ == 0) = false := by simpa using h13_
        have h13_n : (v12_ != 0) = true := by simpa using h13_
        obtain ⟨B14_, hB14_⟩ : ∃ B, bits .andNot .i64 v12_ (t : Int) = B := ⟨_, rfl⟩
        have HAN := Lib.hid hB14_
        by_cases h15_ : B14_ = 0
        · have h15_b : (B14_ == 0) = true := by simpa using h15_
          have h15_n : (B14_ != 0) = false := by simpa using h15_
          have h15_le : B14_ ≤ 0 := by omega
          have h15_ge : 0 ≤ B14_ := by omega
          have Hh15_ := Lib.hid h15_
          clear h15_
          go_wp2
          go_roundw
          case rel => exact ⟨k + 1, C + 1, by go_num, by go_num, by omega, by show _ = worthTo' vs t k + inSet (visAt vs k) t; rw [← HC.out]; rw [worth_bit HVB.out (by omega) Hv12_.out h13_ HAN.out, if_pos Hh15_.out], k6_, (by first | omega | (simp; omega) | simp), k8_⟩
          case measure => simp [intOf] <;> omega
        · have h15_b : (B14_ == 0) = false := by simpa using h15_
          have h15_n : (B14_ != 0) = true := by simpa using h15_
          go_wp2
          go_roundw
          case rel => exact ⟨k + 1, C, by go_num, by go_num, by omega, by show _ = worthTo' vs t k + inSet (visAt vs k) t; rw [← HC.out]; rw [worth_bit HVB.out (by omega) Hv12_.out h13_ HAN.out, if_neg h15_]; omega, k6_, (by first | omega | (simp; omega) | simp), k8_⟩
          case measure => simp [intOf] <;> omega
    · obtain rfl : k = vs.length := by omega
      go_wp2
      go_ret
      exact ⟨ret_int HC.out, k6_⟩

set_option maxRecDepth 10000 in
set_option maxHeartbeats 1000000 in
theorem specPassWorth_no (N : Int) (A : Option Addr) (c : Nat) (vs : List Int) (s : Int) (w : World) (lo hi : Nat) (h : Ints w lo hi A vs) (hh : hi ≤ w.heap.size) (hl : vs.length ≤ 1152921504606846976) (hb : visB N vs = false) :
    Calls Try.prog 24 #[.int .i64 N, .slice A vs.length c, .int .i64 s] w fun e w' => e = .returned (.int .i64 (passW N vs s)) ∧ Below w.heap.size w w' := by
  have HVB := Lib.hid hb
  clear hb
  go_enter Try.func24, Try.ntmps24
  go_wp2_with fail
  refine (specVisitsOk_any N A c vs _ _ _ h (by first | omega | (simp; omega) | simp) (by omega)).mono ?_
  rintro e w1 ⟨he, hb1_⟩
  rw [HVB.out] at he
  subst he
  have o2_ := h.below hb1_ (by first | omega | (simp; omega) | simp)
  have z3_ := hb1_.size
  have B4_ := (Below.refl w.heap.size w).trans (hb1_.mono (by first | omega | (simp; omega) | simp))
  clear hb1_
  go_wp2
  go_ret
  exact ⟨ret_int (by rw [passW, HVB.out]; simp), B4_⟩

set_option maxRecDepth 10000 in
set_option maxHeartbeats 1000000 in
theorem specPassWorth_far (n : Nat) (A : Option Addr) (c : Nat) (vs : List Int) (s : Int) (w : World) (lo hi : Nat) (h : Ints w lo hi A vs) (hh : hi ≤ w.heap.size) (hl : vs.length ≤ 1152921504606846976) (hb : visB (n : Int) vs = true) (hs : ¬ (0 ≤ s ∧ s < 2 ^ n)) :
    Calls Try.prog 24 #[.int .i64 (n : Int), .slice A vs.length c, .int .i64 s] w fun e w' => e = .returned (.int .i64 (passW (n : Int) vs s)) ∧ Below w.heap.size w w' := by
  have HVB := Lib.hid hb
  have hvn := vis_n hb
  obtain ⟨hn1, hn4, hv6⟩ := hvn
  obtain ⟨hpw1, hpw2⟩ := pow_bd hn4
  have hpn := pow16 hn4
  obtain ⟨hpn1, hpn2⟩ := hpn
  have HV := Lib.hid (vis_rg hb)
  clear hb
  have HSF : Hid (¬ (0 ≤ s ∧ s ≤ ((2 ^ n) - 1))) := fun q => hs ⟨q.1, by have e := q.2; omega⟩
  have HSG := Lib.hid hs
  clear hs
  go_enter Try.func24, Try.ntmps24
  go_wp2_with fail
  refine (specVisitsOk_any (n : Int) A c vs _ _ _ h (by first | omega | (simp; omega) | simp) (by omega)).mono ?_
  rintro e w1 ⟨he, hb1_⟩
  rw [HVB.out] at he
  subst he
  have o2_ := h.below hb1_ (by first | omega | (simp; omega) | simp)
  have z3_ := hb1_.size
  have B4_ := (Below.refl w.heap.size w).trans (hb1_.mono (by first | omega | (simp; omega) | simp))
  clear hb1_
  go_wp2_with fail
  refine (l1In_no _ _ _ _ HSF.out).mono ?_
  rintro e w' ⟨rfl, rfl⟩
  go_wp2
  go_ret
  exact ⟨ret_int (by rw [passW, if_neg (fun q => HSG.out q.2)]), B4_⟩

theorem vis_nat {N : Int} {vs : List Int} (h : visB N vs = true) : ∃ n : Nat, N = (n : Int) := ⟨N.toNat, by have e := (visB_iff N vs).1 h; omega⟩
theorem specPassWorth_any (N : Int) (A : Option Addr) (c : Nat) (vs : List Int) (s : Int) (w : World) (lo hi : Nat) (h : Ints w lo hi A vs) (hh : hi ≤ w.heap.size) (hl : vs.length ≤ 1152921504606846976) :
    Calls Try.prog 24 #[.int .i64 N, .slice A vs.length c, .int .i64 s] w (fun e w' => e = .returned (.int .i64 (passW N vs s)) ∧ Below w.heap.size w w') := by
  by_cases hb : visB N vs = true
  · obtain ⟨n, rfl⟩ := vis_nat hb
    by_cases hs : 0 ≤ s ∧ s < 2 ^ n
    · obtain ⟨t, rfl⟩ : ∃ t : Nat, s = (t : Int) := ⟨s.toNat, by omega⟩
      have e := specPassWorth_in n A c vs t w lo hi h hh hl hb (by have q := powI (n := n); omega)
      rwa [show passW (n : Int) vs (t : Int) = worthP vs t from if_pos ⟨hb, hs.1, hs.2⟩]
    · exact specPassWorth_far n A c vs s w lo hi h hh hl hb hs
  · exact specPassWorth_no N A c vs s w lo hi h hh hl (by simpa using hb)

/-- What PassShares and PassOrders return. -/
def passRow (N : Int) (vs : List Int) (p : Int) : List Int := if visB N vs = true ∧ 0 ≤ p ∧ p ≤ 12 then passR N.toNat vs p else []
theorem passRow_yes {n : Nat} {vs : List Int} {p : Int} (h : visB (n : Int) vs = true) (hp : 0 ≤ p ∧ p ≤ 12) : passRow (n : Int) vs p = passR n vs p := by
  rw [passRow, if_pos ⟨h, hp⟩, Int.toNat_natCast]
theorem passRow_len4 (N : Int) (vs : List Int) (p : Int) : (passRow N vs p).length ≤ 4 := by
  unfold passRow; split
  · rename_i h; have e := (visB_iff N vs).1 h.1; rw [passR_length]; omega
  · simp
theorem passRow_rg (N : Int) (vs : List Int) (p : Int) (k : Nat) : 0 ≤ (passRow N vs p).getD k 0 ∧ (passRow N vs p).getD k 0 ≤ 6912 := by
  unfold passRow; split
  · rename_i h
    obtain ⟨n, rfl⟩ := vis_nat h.1
    rw [Int.toNat_natCast]
    by_cases hk : k < n
    · rw [passR, fnRow_getD _ hk]
      have e := vis_n h.1
      have e2 := passTo_rg (vs := vs) (p := p) ⟨h.2.1, by omega⟩ e.2.1 hk vs.length
      show 0 ≤ passTo vs p n vs.length k ∧ passTo vs p n vs.length k ≤ 6912
      omega
    · rw [getD_far _ (by rw [passR_length]; omega)]; omega
  · simp [List.getD]
theorem bit_at {n : Nat} {vs : List Int} (h : visB (n : Int) vs = true) {k q : Nat} {v : Int} (hv : v = vs.getD k 0) : v / 2 ^ q % 2 = 1 ↔ (visAt vs k).testBit q = true := by
  rw [hv, visAt_is h k]; exact bit_nat _ _
theorem bit_add {n : Nat} {vs : List Int} (h : visB (n : Int) vs = true) {k j : Nat} {v M : Int} (hv : v = vs.getD k 0) (hM : M = ((pop (visAt vs k) j : Nat) : Int)) : M + v / 2 ^ j % 2 = ((pop (visAt vs k) (j + 1) : Nat) : Int) := by
  have e := bit_at h (q := j) hv
  have e2 : 0 ≤ v / 2 ^ j % 2 := Int.emod_nonneg _ (by omega)
  have e3 : v / 2 ^ j % 2 < 2 := Int.emod_lt_of_pos _ (by omega)
  simp only [pop]
  by_cases q : (visAt vs k).testBit j = true
  · rw [if_pos q, e.2 q, hM]; omega
  · have e4 : ¬ v / 2 ^ j % 2 = 1 := fun z => q (e.1 z)
    rw [if_neg q, hM]; omega
theorem passRow_zero (vs : List Int) (p : Int) (n : Nat) : fnRow n (passTo vs p n 0) = List.replicate n 0 := by rw [← fnRow_zero]; rfl
theorem passRow_start (vs : List Int) (p : Int) (n k : Nat) : fnRow n (fun i => if i < 0 then passTo vs p n (k + 1) i else passTo vs p n k i) = fnRow n (passTo vs p n k) := fnRow_congr fun _ _ => if_neg (by omega)
theorem passRow_next (vs : List Int) (p : Int) {n k q : Nat} (h : n ≤ q) : fnRow n (fun i => if i < q then passTo vs p n (k + 1) i else passTo vs p n k i) = fnRow n (passTo vs p n (k + 1)) := fnRow_congr fun _ hi => if_pos (by omega)
theorem passMid_rg {n : Nat} {vs : List Int} {p : Int} (hn : n ≤ 4) (hp : 0 ≤ p ∧ p ≤ 12) {k q i : Nat} (hk : k < 6) (hi : i < n) : 0 ≤ (fnRow n (fun i => if i < q then passTo vs p n (k + 1) i else passTo vs p n k i)).getD i 0 ∧ (fnRow n (fun i => if i < q then passTo vs p n (k + 1) i else passTo vs p n k i)).getD i 0 ≤ 6912 := by
  rw [fnRow_getD _ hi]
  have e1 := passTo_rg (vs := vs) (p := p) ⟨hp.1, by omega⟩ hn hi k
  have e2 := passTo_rg (vs := vs) (p := p) ⟨hp.1, by omega⟩ hn hi (k + 1)
  split <;> omega
theorem pass_step {n : Nat} {vs : List Int} {p : Int} {k q : Nat} {o M : Int} (hq : q < n) (hb : (visAt vs k).testBit q = true) (hM : M = ((pop (visAt vs k) n : Nat) : Int)) (ho : o = (fnRow n (fun i => if i < q then passTo vs p n (k + 1) i else passTo vs p n k i)).getD q 0) : (fnRow n (fun i => if i < q then passTo vs p n (k + 1) i else passTo vs p n k i)).set q (o + 48 * p / M) = fnRow n (fun i => if i < (q + 1) then passTo vs p n (k + 1) i else passTo vs p n k i) := by
  refine fnRow_set (fun i _ hi => ?_) ?_
  · by_cases e : i < q
    · (try simp only []); rw [if_pos e, if_pos (by omega)]
    · (try simp only []); rw [if_neg e, if_neg (by omega)]
  · rw [ho, fnRow_getD _ hq]
    (try simp only []); rw [if_neg (by omega), if_pos (by omega), hM, ← passOf_yes hb]; rfl
theorem pass_skip {n : Nat} {vs : List Int} {p : Int} {k q : Nat} (hb : (visAt vs k).testBit q = false) : fnRow n (fun i => if i < q then passTo vs p n (k + 1) i else passTo vs p n k i) = fnRow n (fun i => if i < (q + 1) then passTo vs p n (k + 1) i else passTo vs p n k i) := fnRow_congr fun i _ => by
  by_cases e : i < q
  · (try simp only []); rw [if_pos e, if_pos (by omega)]
  · by_cases e2 : i = q
    · subst e2
      (try simp only []); rw [if_neg e, if_pos (by omega)]
      show _ = passTo vs p n k i + passOf p n (visAt vs k) i
      rw [passOf_no hb]; omega
    · (try simp only []); rw [if_neg e, if_neg (by omega)]

set_option maxRecDepth 10000 in
set_option maxHeartbeats 2000000 in
theorem specPassShares_yes (n : Nat) (A : Option Addr) (c : Nat) (vs : List Int) (p : Int) (w : World) (lo hi : Nat) (h : Ints w lo hi A vs) (hh : hi ≤ w.heap.size) (hl : vs.length ≤ 1152921504606846976) (hb : visB (n : Int) vs = true) (hp : 0 ≤ p ∧ p ≤ 12) :
    Calls Try.prog 19 #[.int .i64 (n : Int), .slice A vs.length c, .int .i64 p] w (RetInts w (passRow (n : Int) vs p)) := by
  have HVB := Lib.hid hb
  have hvn := vis_n hb
  obtain ⟨hn1, hn4, hv6⟩ := hvn
  obtain ⟨hpw1, hpw2⟩ := pow_bd hn4
  have hpn := pow16 hn4
  obtain ⟨hpn1, hpn2⟩ := hpn
  have HV := Lib.hid (vis_rg hb)
  clear hb
  have HPP := Lib.hid hp
  obtain ⟨hp0, hp1⟩ := hp
  go_enter Try.func19, Try.ntmps19
  go_wp2_with fail
  refine (specVisitsOk_any (n : Int) A c vs _ _ _ h (by first | omega | (simp; omega) | simp) (by omega)).mono ?_
  rintro e w1 ⟨he, hb1_⟩
  rw [HVB.out] at he
  subst he
  have o2_ := h.below hb1_ (by first | omega | (simp; omega) | simp)
  have z3_ := hb1_.size
  have B4_ := (Below.refl w.heap.size w).trans (hb1_.mono (by first | omega | (simp; omega) | simp))
  clear hb1_
  go_wp2_with fail
  refine (l1In_yes _ _ _ _ HPP.out).mono ?_
  rintro e w' ⟨rfl, rfl⟩
  go_upto_region 4 with (at_make; (refine make_gr (by rfl) _ _ (by rfl) (n := n) (x := (n : Int)) (by omega) (by rfl) (by rfl) (by omega) ?_; intro w5 G5_ hb6_))
  have o8_ := o2_.below hb6_ (by first | omega | (simp; omega) | simp)
  have z9_ := hb6_.size
  have B10_ := B4_.trans (hb6_.mono (by first | omega | (simp; omega) | simp))
  clear hb6_
  have l11_ := G5_.lt
  have HL12_ : Hid ((List.replicate n 0).length = n) := List.length_replicate
  go_wp2
  go_loopw [8] (fun i wr => ∃ k : Nat, i = .int .i64 k ∧ (k ≤ vs.length) ∧ Grow wr w1.heap.size n (fnRow n (passTo vs p n k)) ∧ Below w.heap.size w wr ∧ w5.heap.size ≤ wr.heap.size ∧ Ints wr (lo) (hi) A vs) (fun i _ => vs.length - (intOf i).toNat)
  case atStart => exact ⟨0, rfl, Nat.zero_le _, (by rw [passRow_zero]; exact G5_), B10_, (by first | omega | (simp; omega) | simp), o8_⟩
  case round =>
    obtain ⟨k, rfl, hk, G14_, k15_, k16_, k17_⟩ := hrel
    obtain ⟨w13, rfl⟩ : ∃ x, x = wr := ⟨_, rfl⟩
    have HL18_ : Hid ((fnRow n (passTo vs p n k)).length = n) := (fnRow_length _ _)
    have l19_ := G14_.lt
    by_cases hlt0 : k < vs.length
    · obtain ⟨b20_, f21_, rfl, _, b20_h, -⟩ := k17_ (by omega)
      have c22_ : w13.cell? ⟨b20_, f21_ + k, none⟩ = some (.int .i64 (vs.getD k 0)) := k17_.at2 k (by first | omega | (simp; omega) | simp)
      have c22_i : (k : Int) < (vs.length : Int) := by omega
      have c22_j : (0 : Int) ≤ (k : Int) := by omega
      have v23_g := (HV.out k : 0 ≤ vs.getD k 0 ∧ vs.getD k 0 < 2 ^ n)
      obtain ⟨v23_, hv23_⟩ : ∃ v, v = vs.getD k 0 := ⟨_, rfl⟩
      rw [← hv23_] at c22_ v23_g
      have Hv23_ := Lib.hid hv23_
      clear hv23_
      obtain ⟨v23_g1, v23_g2⟩ := v23_g
      go_wp2
      go_loopw [9, 10] (fun mm jj wr => ∃ j : Nat, ∃ M : Int, mm = .int .i64 M ∧ jj = .int .i64 j ∧ (j ≤ n) ∧ (M = ((pop (visAt vs k) j : Nat) : Int)) ∧ Below w.heap.size w wr ∧ w13.heap.size ≤ wr.heap.size ∧ Ints wr (lo) (hi) (some ⟨b20_, f21_, none⟩) vs ∧ Grow wr w1.heap.size n (fnRow n (passTo vs p n k))) (fun mm jj _ => n - (intOf jj).toNat)
      case atStart => exact ⟨0, 0, rfl, rfl, Nat.zero_le _, rfl, k15_, (by first | omega | (simp; omega) | simp), k17_, G14_⟩
      case round =>
        obtain ⟨j, M, rfl, rfl, hj, hM, k25_, k26_, k27_, k28_⟩ := hrel
        obtain ⟨w24, rfl⟩ : ∃ x, x = wr := ⟨_, rfl⟩
        have hq2 : 0 ≤ v23_ / 2 ^ j := Int.ediv_nonneg (by omega) (by exact Int.le_of_lt (Int.pow_pos (by omega)))
        have hMb := pop_le (visAt vs k) j
        have hMb1 : M ≤ 4 := by rw [hM]; omega
        have hMb2 : 0 ≤ M := by rw [hM]; omega
        have HM := Lib.hid hM
        clear hM
        by_cases hlt2 : j < n
        · have c29_ : w24.cell? ⟨b20_, f21_ + k, none⟩ = some (.int .i64 v23_) := by rw [Hv23_.out]; exact k27_.at2 k (by first | omega | (simp; omega) | simp)
          have c29_i : (k : Int) < (vs.length : Int) := by omega
          have c29_j : (0 : Int) ≤ (k : Int) := by omega
          go_wp2
          go_roundw
          case rel => exact ⟨j + 1, M + v23_ / 2 ^ j % 2, by go_num, by go_num, by omega, bit_add HVB.out Hv23_.out HM.out, k25_, (by first | omega | (simp; omega) | simp), k27_, k28_⟩
          case measure => simp [intOf] <;> omega
        · have HM2 : Hid (M = ((pop (visAt vs k) n : Nat) : Int)) := by show _ = _; rw [HM.out, show j = n from by omega]
          go_wp2
          go_loopw [11] (fun qq wr => ∃ q : Nat, qq = .int .i64 q ∧ (q ≤ n) ∧ Grow wr w1.heap.size n (fnRow n (fun i => if i < q then passTo vs p n (k + 1) i else passTo vs p n k i)) ∧ Below w.heap.size w wr ∧ w24.heap.size ≤ wr.heap.size ∧ Ints wr (lo) (hi) (some ⟨b20_, f21_, none⟩) vs) (fun qq _ => n - (intOf qq).toNat)
          case atStart => exact ⟨0, rfl, Nat.zero_le _, (by rw [passRow_start]; exact k28_), k25_, (by first | omega | (simp; omega) | simp), k27_⟩
          case round =>
            obtain ⟨q, rfl, hq, G30_, k31_, k32_, k33_⟩ := hrel
            obtain ⟨w29, rfl⟩ : ∃ x, x = wr := ⟨_, rfl⟩
            have HL34_ : Hid ((fnRow n (fun i => if i < q then passTo vs p n (k + 1) i else passTo vs p n k i)).length = n) := (fnRow_length _ _)
            have l35_ := G30_.lt
            have hq2 : 0 ≤ v23_ / 2 ^ q := Int.ediv_nonneg (by omega) (by exact Int.le_of_lt (Int.pow_pos (by omega)))
            by_cases hlt4 : q < n
            · have c36_ : w29.cell? ⟨b20_, f21_ + k, none⟩ = some (.int .i64 v23_) := by rw [Hv23_.out]; exact k33_.at2 k (by first | omega | (simp; omega) | simp)
              have c36_i : (k : Int) < (vs.length : Int) := by omega
              have c36_j : (0 : Int) ≤ (k : Int) := by omega
              by_cases h37_ : ((v23_ / 2 ^ q) % 2) = 1
              · have h37_b : (((v23_ / 2 ^ q) % 2) == 1) = true := by simpa using h37_
                have h37_n : (((v23_ / 2 ^ q) % 2) != 1) = false := by simpa using h37_
                have h37_le : ((v23_ / 2 ^ q) % 2) ≤ 1 := by omega
                have h37_ge : 1 ≤ ((v23_ / 2 ^ q) % 2) := by omega
                have Hh37_ := Lib.hid h37_
                clear h37_
                have HBT : Hid ((visAt vs k).testBit q = true) := (bit_at HVB.out Hv23_.out).1 Hh37_.out
                have hM1 : 1 ≤ M := by rw [HM2.out]; have e := pop_up _ HBT.out (n := n) (by omega); omega
                have c38_ : w29.cell? ⟨w1.heap.size, q, none⟩ = some (.int .i64 ((fnRow n (fun i => if i < q then passTo vs p n (k + 1) i else passTo vs p n k i)).getD q 0)) := G30_.at_ q (by rw [fnRow_length]; omega)
                have c38_i : (q : Int) < (n : Int) := by omega
                have c38_j : (0 : Int) ≤ (q : Int) := by omega
                have v39_g := passMid_rg (vs := vs) hn4 ⟨hp0, hp1⟩ (k := k) (q := q) (by omega) (i := q) (by omega)
                obtain ⟨v39_, hv39_⟩ : ∃ v, v = (fnRow n (fun i => if i < q then passTo vs p n (k + 1) i else passTo vs p n k i)).getD q 0 := ⟨_, rfl⟩
                rw [← hv39_] at c38_ v39_g
                have Hv39_ := Lib.hid hv39_
                clear hv39_
                obtain ⟨v39_g1, v39_g2⟩ := v39_g
                have hq40_a := Int.ediv_nonneg (show 0 ≤ (48 * p) by omega) (show 0 ≤ M by omega)
                have hq40_b := Int.ediv_le_self M (show 0 ≤ (48 * p) by omega)
                have hq40_ : IntKind.i64.wrap ((48 * p).tdiv M) = (48 * p) / M := by rw [Int.tdiv_eq_ediv_of_nonneg (by omega)]; exact IntWalk.i64_in _ (by omega)
                have hq40_y : (M == 0) = false := by simp only [beq_eq_false_iff_ne]; omega
                have hq40_z : (M = 0) = False := eq_false (by omega)
                have hw41_ : IntKind.i64.wrap (48 * p) = (48 * p) := IntWalk.i64_in _ (by omega)
                have hw42_ : IntKind.i64.wrap (v39_ + ((48 * p) / M)) = (v39_ + ((48 * p) / M)) := IntWalk.i64_in _ (by omega)
                have c43_ := G30_.at_ q (by rw [fnRow_length]; omega)
                have c43_f := G30_.soft q (by rw [fnRow_length]; omega)
                clear c43_
                have c43_i : (q : Int) < (n : Int) := by omega
                have c43_j : (0 : Int) ≤ (q : Int) := by omega
                have hw46_ : IntKind.i64.wrap (48 * p) = (48 * p) := IntWalk.i64_in _ (by omega)
                have hw47_ : IntKind.i64.wrap (v39_ + ((48 * p) / M)) = (v39_ + ((48 * p) / M)) := IntWalk.i64_in _ (by omega)
                go_wp2_with fail
                go_region
                obtain ⟨w45, hw45⟩ : ∃ x, x = ((w29.setCell ⟨w1.heap.size, q, none⟩ (.int .i64 (v39_ + ((48 * p) / M)))).drew) := ⟨_, rfl⟩
                rw [← hw45]
                have hC44_ : Chg w1.heap.size (w1.heap.size + 1) w29 w45 := by rw [hw45]; exact (Chg.setCell (lo := w1.heap.size) (hi := w1.heap.size + 1) w29 (p := ⟨w1.heap.size, q, none⟩) ⟨Nat.le_refl _, Nat.lt_succ_self _⟩ (.int .i64 (v39_ + ((48 * p) / M)))).drewR
                have G48_ : Grow w45 w1.heap.size n ((fnRow n (fun i => if i < q then passTo vs p n (k + 1) i else passTo vs p n k i)).set q (v39_ + ((48 * p) / M))) := by rw [hw45]; exact (G30_.store q (v39_ + ((48 * p) / M))).drew
                clear hw45
                have o49_ := k33_.chg hC44_ (by first | omega | (simp; omega) | simp) (by omega)
                have z50_ := hC44_.size
                have B51_ := k31_.trans (hC44_.below (by omega) (by first | omega | (simp; omega) | simp))
                clear hC44_
                have HL52_ : Hid (((fnRow n (fun i => if i < q then passTo vs p n (k + 1) i else passTo vs p n k i)).set q (v39_ + ((48 * p) / M))).length = n) := by show _ = _; rw [List.length_set]; first | rfl | omega | exact HL34_.out
                go_wp2
                go_roundw
                case rel => exact ⟨q + 1, by go_num, by omega, (by rw [← pass_step (o := v39_) (M := M) (by omega) HBT.out HM2.out Hv39_.out]; exact G48_), B51_, (by first | omega | (simp; omega) | simp), o49_⟩
                case measure => simp [intOf] <;> omega
              · have h37_b : (((v23_ / 2 ^ q) % 2) == 1) = false := by simpa using h37_
                have h37_n : (((v23_ / 2 ^ q) % 2) != 1) = true := by simpa using h37_
                have HBF : Hid ((visAt vs k).testBit q = false) := by show _ = _; cases z : (visAt vs k).testBit q with | false => rfl | true => exact absurd ((bit_at HVB.out Hv23_.out).2 z) h37_
                go_wp2
                go_roundw
                case rel => exact ⟨q + 1, by go_num, by omega, (by rw [← pass_skip HBF.out]; exact G30_), k31_, (by first | omega | (simp; omega) | simp), k33_⟩
                case measure => simp [intOf] <;> omega
            · have hqn : n ≤ q := by omega
              go_wp2
              go_roundw
              case rel => exact ⟨k + 1, by go_num, by omega, (by have e := G30_; rw [passRow_next vs p (show n ≤ q by omega)] at e; exact e), k31_, (by first | omega | (simp; omega) | simp), k33_⟩
              case measure => simp [intOf] <;> omega
    · obtain rfl : k = vs.length := by omega
      have hfin : passRow (n : Int) vs p = fnRow n (passTo vs p n vs.length) := by rw [passRow_yes HVB.out HPP.out]; rfl
      have HFIN := Lib.hid hfin
      clear hfin
      go_wp2
      go_ret
      rw [HFIN.out]
      (refine retInts_grow G14_ (by omega) ?_ k15_; rw [fnRow_length])

set_option maxRecDepth 10000 in
set_option maxHeartbeats 1000000 in
theorem specPassShares_no (N : Int) (A : Option Addr) (c : Nat) (vs : List Int) (p : Int) (w : World) (lo hi : Nat) (h : Ints w lo hi A vs) (hh : hi ≤ w.heap.size) (hl : vs.length ≤ 1152921504606846976) (hb : visB N vs = false) :
    Calls Try.prog 19 #[.int .i64 N, .slice A vs.length c, .int .i64 p] w (RetInts w (passRow N vs p)) := by
  have HVB := Lib.hid hb
  clear hb
  go_enter Try.func19, Try.ntmps19
  go_wp2_with fail
  refine (specVisitsOk_any N A c vs _ _ _ h (by first | omega | (simp; omega) | simp) (by omega)).mono ?_
  rintro e w1 ⟨he, hb1_⟩
  rw [HVB.out] at he
  subst he
  have o2_ := h.below hb1_ (by first | omega | (simp; omega) | simp)
  have z3_ := hb1_.size
  have B4_ := (Below.refl w.heap.size w).trans (hb1_.mono (by first | omega | (simp; omega) | simp))
  clear hb1_
  have o5_ := o2_.alloc (by first | omega | (simp; omega) | simp) (.cells #[] 3)
  have B6_ := B4_.alloc (by first | omega | (simp; omega) | simp) (.cells #[] 3)
  have G7_ : Grow (w1.alloc (.cells #[] 3)) (w1.heap.size) 0 ([] : List Int) := by have e := grow_lit w1 ([] : List Int) (by simp); (try simp only [hsz] at e); exact e
  have l8_ := G7_.lt
  have HL9_ : Hid (([] : List Int).length = 0) := rfl
  have hfin : passRow N vs p = ([] : List Int) := by rw [passRow, HVB.out]; simp
  have HFIN := Lib.hid hfin
  clear hfin
  go_wp2
  go_ret
  rw [HFIN.out]
  (refine retInts_grow G7_ (by omega) ?_ B6_; rfl)

set_option maxRecDepth 10000 in
set_option maxHeartbeats 1000000 in
theorem specPassShares_far (N : Int) (A : Option Addr) (c : Nat) (vs : List Int) (p : Int) (w : World) (lo hi : Nat) (h : Ints w lo hi A vs) (hh : hi ≤ w.heap.size) (hl : vs.length ≤ 1152921504606846976) (hb : visB N vs = true) (hp : ¬ (0 ≤ p ∧ p ≤ 12)) :
    Calls Try.prog 19 #[.int .i64 N, .slice A vs.length c, .int .i64 p] w (RetInts w (passRow N vs p)) := by
  have HVB := Lib.hid hb
  have HPP := Lib.hid hp
  clear hb hp
  go_enter Try.func19, Try.ntmps19
  go_wp2_with fail
  refine (specVisitsOk_any N A c vs _ _ _ h (by first | omega | (simp; omega) | simp) (by omega)).mono ?_
  rintro e w1 ⟨he, hb1_⟩
  rw [HVB.out] at he
  subst he
  have o2_ := h.below hb1_ (by first | omega | (simp; omega) | simp)
  have z3_ := hb1_.size
  have B4_ := (Below.refl w.heap.size w).trans (hb1_.mono (by first | omega | (simp; omega) | simp))
  clear hb1_
  go_wp2_with fail
  refine (l1In_no _ _ _ _ HPP.out).mono ?_
  rintro e w' ⟨rfl, rfl⟩
  have o5_ := o2_.alloc (by first | omega | (simp; omega) | simp) (.cells #[] 3)
  have B6_ := B4_.alloc (by first | omega | (simp; omega) | simp) (.cells #[] 3)
  have G7_ : Grow (w1.alloc (.cells #[] 3)) (w1.heap.size) 0 ([] : List Int) := by have e := grow_lit w1 ([] : List Int) (by simp); (try simp only [hsz] at e); exact e
  have l8_ := G7_.lt
  have HL9_ : Hid (([] : List Int).length = 0) := rfl
  have hfin : passRow N vs p = ([] : List Int) := by rw [passRow, if_neg (fun q => HPP.out q.2)]
  have HFIN := Lib.hid hfin
  clear hfin
  go_wp2
  go_ret
  rw [HFIN.out]
  (refine retInts_grow G7_ (by omega) ?_ B6_; rfl)

theorem specPassShares_any (N : Int) (A : Option Addr) (c : Nat) (vs : List Int) (p : Int) (w : World) (lo hi : Nat) (h : Ints w lo hi A vs) (hh : hi ≤ w.heap.size) (hl : vs.length ≤ 1152921504606846976) :
    Calls Try.prog 19 #[.int .i64 N, .slice A vs.length c, .int .i64 p] w (RetInts w (passRow N vs p)) := by
  by_cases hb : visB N vs = true
  · by_cases hp : 0 ≤ p ∧ p ≤ 12
    · obtain ⟨n, rfl⟩ := vis_nat hb
      exact specPassShares_yes n A c vs p w lo hi h hh hl hb hp
    · exact specPassShares_far N A c vs p w lo hi h hh hl hb hp
  · exact specPassShares_no N A c vs p w lo hi h hh hl (by simpa using hb)

/-- What one brings by the first m orders together. -/
def ordTot (vs : List Int) (p : Int) (n m i : Nat) : Int := (((perms n).take m).map fun os => bringTo vs p os i n).sum
theorem ordTot_succ (vs : List Int) (p : Int) {n m : Nat} (h : m < (perms n).length) (i : Nat) : ordTot vs p n (m + 1) i = ordTot vs p n m i + bringTo vs p ((perms n).getD m []) i n := by
  unfold ordTot
  rw [List.take_succ_eq_append_getElem h, List.map_append, List.sum_append]
  simp [List.getD, List.getElem?_eq_getElem h]
theorem mul_rg6 {a b : Int} (ha : 0 ≤ a ∧ a ≤ 576) (hb : -6 ≤ b ∧ b ≤ 6) : -3456 ≤ a * b ∧ a * b ≤ 3456 := by
  rcases (show b = -6 ∨ b = -5 ∨ b = -4 ∨ b = -3 ∨ b = -2 ∨ b = -1 ∨ b = 0 ∨ b = 1 ∨ b = 2 ∨ b = 3 ∨ b = 4 ∨ b = 5 ∨ b = 6 from by omega) with e | e | e | e | e | e | e | e | e | e | e | e | e <;> subst e <;> omega
theorem bring_rg {n : Nat} {vs : List Int} (h : visB (n : Int) vs = true) {p : Int} (hp : 0 ≤ p ∧ p ≤ 12) (os : List Int) (i : Nat) : ∀ q : Nat, -3456 * (q : Int) ≤ bringTo vs p os i q ∧ bringTo vs p os i q ≤ 3456 * (q : Int)
  | 0 => by simp [bringTo]
  | q + 1 => by
    have e := bring_rg h hp os i q
    have e1 := worthP_rg h (setTo os (q + 1))
    have e2 := worthP_rg h (setTo os q)
    have e3 := mul_rg6 (a := 48 * p) (b := worthP vs (setTo os (q + 1)) - worthP vs (setTo os q)) (by omega) (by omega)
    simp only [bringTo]
    rw [Int.natCast_add]
    split <;> omega
theorem ordTot_rg {n : Nat} {vs : List Int} (h : visB (n : Int) vs = true) {p : Int} (hp : 0 ≤ p ∧ p ≤ 12) (i : Nat) : ∀ m, m ≤ (perms n).length → -13824 * (m : Int) ≤ ordTot vs p n m i ∧ ordTot vs p n m i ≤ 13824 * (m : Int)
  | 0, _ => by simp [ordTot]
  | m + 1, hm => by
    have e := ordTot_rg h hp i m (by omega)
    have e2 := bring_rg h hp ((perms n).getD m []) i n
    have e3 := vis_n h
    rw [ordTot_succ vs p (by omega), Int.natCast_add]
    omega
theorem ordMid_rg {n : Nat} {vs : List Int} (h : visB (n : Int) vs = true) {p : Int} (hp : 0 ≤ p ∧ p ≤ 12) {m j k : Nat} (hm : m < (perms n).length) (hj : j ≤ n) (hk : k < n) : -400000 ≤ (fnRow n (fun i => ordTot vs p n m i + bringTo vs p ((perms n).getD m []) i j)).getD k 0 ∧ (fnRow n (fun i => ordTot vs p n m i + bringTo vs p ((perms n).getD m []) i j)).getD k 0 ≤ 400000 := by
  have hb := vis_n h
  have hf := perms_few n hb.2.1
  rw [fnRow_getD _ hk]
  have e1 := ordTot_rg h hp k m (by omega)
  have e2 := bring_rg h hp ((perms n).getD m []) k j
  omega
theorem ordAll {n : Nat} {vs : List Int} (h : visB (n : Int) vs = true) {p : Int} {k : Nat} (hk : k < n) : ordTot vs p n (perms n).length k = fac n * passAt vs p n k := by
  unfold ordTot; rw [List.take_length]; exact bring_total h p hk
theorem ordDiv_rg {n : Nat} {vs : List Int} (h : visB (n : Int) vs = true) {p : Int} (hp : 0 ≤ p ∧ p ≤ 12) {q k : Nat} (hk : k < n) (hq : q ≤ k) : 0 ≤ (fnRow n (fun i => if i < q then passAt vs p n i else ordTot vs p n (perms n).length i)).getD k 0 ∧ (fnRow n (fun i => if i < q then passAt vs p n i else ordTot vs p n (perms n).length i)).getD k 0 ≤ 400000 := by
  have hb := vis_n h
  rw [fnRow_getD _ hk, if_neg (by omega), ordAll h hk]
  have e := passTo_rg (vs := vs) (p := p) ⟨hp.1, by omega⟩ hb.2.1 hk vs.length
  have e2 : 0 ≤ passAt vs p n k ∧ passAt vs p n k ≤ 6912 := by show 0 ≤ passTo vs p n vs.length k ∧ passTo vs p n vs.length k ≤ 6912; omega
  have e3 : fac n = 1 ∨ fac n = 2 ∨ fac n = 6 ∨ fac n = 24 := by
    rcases (show n = 1 ∨ n = 2 ∨ n = 3 ∨ n = 4 from by omega) with z | z | z | z <;> subst z <;> decide
  rcases e3 with z | z | z | z <;> rw [z] <;> omega
theorem setTo_lt {n : Nat} {os : List Int} (h : ∀ j, j < n → (os.getD j 0).toNat < n) : ∀ q, q ≤ n → setTo os q < 2 ^ n
  | 0, _ => Nat.pow_pos (by omega)
  | q + 1, hq => by
    simp only [setTo]
    exact Nat.or_lt_two_pow (setTo_lt h q (by omega)) (Nat.pow_lt_pow_right (by omega) (h q (by omega)))
theorem perm_set {n m : Nat} {y : List Int} (hn : n ≤ 4) (hm : m < (perms n).length) (hy : (perms n).getD m [] = y) {q : Nat} (hq : q ≤ n) : setTo y q < 2 ^ n :=
  setTo_lt (fun j hj => by have e := perm_rg hn hm hj; rw [hy] at e; omega) q hq
theorem set_next {n : Nat} {y : List Int} {u j x : Nat} (hn : n ≤ 4) (hv : (x : Int) = y.getD j 0) (hx : x < n) (hu : u = setTo y j) (hb : u < 2 ^ n) : bits .or .i64 (u : Int) (2 ^ x) = ((setTo y (j + 1) : Nat) : Int) := by
  have e := pow16 hn
  have e2 := pow16 (n := x) (by omega)
  rw [← powI, or_i64 u _ (by omega) (by omega), hu]
  show _ = ((setTo y j ||| 2 ^ (y.getD j 0).toNat : Nat) : Int)
  rw [← hv, Int.toNat_natCast]
theorem ord_step {n : Nat} {vs y : List Int} {p : Int} {m j x u u2 : Nat} {o A B P v : Int} (hy : (perms n).getD m [] = y) (hx : x < n) (hv : v = y.getD j 0) (hvx : v = (x : Int)) (hu : u = setTo y j) (hu2 : u2 = setTo y (j + 1)) (ho : o = (fnRow n (fun i => ordTot vs p n m i + bringTo vs p ((perms n).getD m []) i j)).getD x 0) (hA : worthP vs u2 = A) (hB : worthP vs u = B) (hP : 48 * p * (A - B) = P) : (fnRow n (fun i => ordTot vs p n m i + bringTo vs p ((perms n).getD m []) i j)).set x (o + P) = fnRow n (fun i => ordTot vs p n m i + bringTo vs p ((perms n).getD m []) i (j + 1)) := by
  subst hy
  have hx2 : (((perms n).getD m []).getD j 0).toNat = x := by rw [← hv, hvx]; simp
  refine fnRow_set (fun i _ hi => ?_) ?_
  · simp only [bringTo]; rw [if_neg (by rw [hx2]; exact fun z => hi z.symm)]; omega
  · rw [ho, fnRow_getD _ hx]
    simp only [bringTo]; rw [if_pos hx2, ← hu, ← hu2, hA, hB, hP]; omega
theorem ordRow_zero (vs : List Int) (p : Int) (n : Nat) : fnRow n (ordTot vs p n 0) = List.replicate n 0 := by rw [← fnRow_zero]; exact fnRow_congr fun i _ => by simp [ordTot]
theorem ordRow_start (vs : List Int) (p : Int) (n m : Nat) : fnRow n (fun i => ordTot vs p n m i + bringTo vs p ((perms n).getD m []) i 0) = fnRow n (ordTot vs p n m) := fnRow_congr fun i _ => by simp [bringTo]
theorem ordRow_next (vs : List Int) (p : Int) {n m j : Nat} (h : m < (perms n).length) (hj : j = n) : fnRow n (fun i => ordTot vs p n m i + bringTo vs p ((perms n).getD m []) i j) = fnRow n (ordTot vs p n (m + 1)) := by subst hj; exact fnRow_congr fun i _ => (ordTot_succ vs p h i).symm
theorem ordDiv_step {n : Nat} {vs : List Int} {p : Int} (h : visB (n : Int) vs = true) {q : Nat} {v : Int} (hq : q < n) (hv : v = (fnRow n (fun i => if i < q then passAt vs p n i else ordTot vs p n (perms n).length i)).getD q 0) : (fnRow n (fun i => if i < q then passAt vs p n i else ordTot vs p n (perms n).length i)).set q (v / ((perms n).length : Int)) = fnRow n (fun i => if i < q + 1 then passAt vs p n i else ordTot vs p n (perms n).length i) := by
  refine fnRow_set (fun i _ hn => ?_) ?_
  · by_cases e : i < q
    · (try simp only []); rw [if_pos e, if_pos (by omega)]
    · (try simp only []); rw [if_neg e, if_neg (by omega)]
  · rw [hv, fnRow_getD _ hq]
    (try simp only []); rw [if_neg (by omega), if_pos (by omega)]
    unfold ordTot; rw [List.take_length]; exact bring_mean h p hq
theorem ordDiv_zero (vs : List Int) (p : Int) (n : Nat) : fnRow n (fun i => if i < 0 then passAt vs p n i else ordTot vs p n (perms n).length i) = fnRow n (ordTot vs p n (perms n).length) := fnRow_congr fun _ _ => if_neg (by omega)
theorem ordDiv_all (vs : List Int) (p : Int) {n q : Nat} (h : n ≤ q) : fnRow n (fun i => if i < q then passAt vs p n i else ordTot vs p n (perms n).length i) = passR n vs p := fnRow_congr fun _ hi => if_pos (by omega)

set_option maxRecDepth 10000 in
set_option maxHeartbeats 2000000 in
theorem specPassOrders_yes (n : Nat) (A : Option Addr) (c : Nat) (vs : List Int) (p : Int) (w : World) (lo hi : Nat) (h : Ints w lo hi A vs) (hh : hi ≤ w.heap.size) (hl : vs.length ≤ 1152921504606846976) (hb : visB (n : Int) vs = true) (hp : 0 ≤ p ∧ p ≤ 12) :
    Calls Try.prog 26 #[.int .i64 (n : Int), .slice A vs.length c, .int .i64 p] w (RetInts w (passRow (n : Int) vs p)) := by
  have HVB := Lib.hid hb
  have hvn := vis_n hb
  obtain ⟨hn1, hn4, hv6⟩ := hvn
  obtain ⟨hpw1, hpw2⟩ := pow_bd hn4
  have hpn := pow16 hn4
  obtain ⟨hpn1, hpn2⟩ := hpn
  have HV := Lib.hid (vis_rg hb)
  clear hb
  have HPP := Lib.hid hp
  obtain ⟨hp0, hp1⟩ := hp
  have hpf := perms_few n hn4
  obtain ⟨hpf1, hpf2⟩ := hpf
  go_enter Try.func26, Try.ntmps26
  go_wp2_with fail
  refine (specVisitsOk_any (n : Int) A c vs _ _ _ h (by first | omega | (simp; omega) | simp) (by omega)).mono ?_
  rintro e w1 ⟨he, hb1_⟩
  rw [HVB.out] at he
  subst he
  have o2_ := h.below hb1_ (by first | omega | (simp; omega) | simp)
  have z3_ := hb1_.size
  have B4_ := (Below.refl w.heap.size w).trans (hb1_.mono (by first | omega | (simp; omega) | simp))
  clear hb1_
  go_wp2_with fail
  refine (l1In_yes _ _ _ _ HPP.out).mono ?_
  rintro e w' ⟨rfl, rfl⟩
  go_upto_region 4 with (at_make; (refine make_gr (by rfl) _ _ (by rfl) (n := n) (x := (n : Int)) (by omega) (by rfl) (by rfl) (by omega) ?_; intro w5 G5_ hb6_))
  have o8_ := o2_.below hb6_ (by first | omega | (simp; omega) | simp)
  have z9_ := hb6_.size
  have B10_ := B4_.trans (hb6_.mono (by first | omega | (simp; omega) | simp))
  clear hb6_
  have l11_ := G5_.lt
  have HL12_ : Hid ((List.replicate n 0).length = n) := List.length_replicate
  go_wp2_with fail
  refine (l7Orders_any n _ (by omega)).mono ?_
  rintro e w13 ⟨g16_, c17_, rfl, R14_, hb15_⟩
  have o20_ := o8_.below hb15_ (by first | omega | (simp; omega) | simp)
  have o21_ := G5_.below hb15_ (by first | omega | (simp; omega) | simp)
  have z22_ := hb15_.size
  have B23_ := B10_.trans (hb15_.mono (by first | omega | (simp; omega) | simp))
  clear hb15_
  have l18_ := R14_.lt
  have l19_ := R14_.ge
  go_wp2
  go_loopw [9] (fun i wr => ∃ m : Nat, i = .int .i64 m ∧ (m ≤ (perms n).length) ∧ Grow wr w1.heap.size n (fnRow n (ordTot vs p n m)) ∧ Below w.heap.size w wr ∧ w13.heap.size ≤ wr.heap.size ∧ Ints wr (lo) (hi) A vs ∧ Rows wr true w5.heap.size w13.heap.size g16_ c17_ (perms n)) (fun i _ => (perms n).length - (intOf i).toNat)
  case atStart => exact ⟨0, rfl, Nat.zero_le _, (by rw [ordRow_zero]; exact o21_), B23_, (by first | omega | (simp; omega) | simp), o20_, R14_⟩
  case round =>
    obtain ⟨m, rfl, hm, G25_, k26_, k27_, k28_, k29_⟩ := hrel
    obtain ⟨w24, rfl⟩ : ∃ x, x = wr := ⟨_, rfl⟩
    have HL30_ : Hid ((fnRow n (ordTot vs p n m)).length = n) := (fnRow_length _ _)
    have l31_ := G25_.lt
    by_cases hlt0 : m < (perms n).length
    · obtain ⟨B32_, d33_, c34_, F35_, rm37_, F35_n⟩ := k29_.at_ m (by omega)
      obtain ⟨b38_, f39_, rfl⟩ := F35_n rfl
      obtain ⟨y36_, hy36_⟩ : ∃ y, (perms n).getD m [] = y := ⟨_, rfl⟩
      rw [hy36_] at c34_ F35_ rm37_
      have Hy36_ := Lib.hid hy36_
      clear hy36_
      have HLy36_ : Hid (y36_.length = n) := by show _ = _; rw [← Hy36_.out]; exact perms_at (by omega) (by omega)
      rw [HLy36_.out] at c34_ rm37_
      have c34_ : w24.cell? ⟨g16_, m, none⟩ = some (.slice (some ⟨b38_, f39_, none⟩) n d33_) := c34_
      have c34_i : (m : Int) < ((perms n).length : Int) := by omega
      have c34_j : (0 : Int) ≤ (m : Int) := by omega
      go_wp2
      go_loopw [11, 10] (fun i uu wr => ∃ j : Nat, ∃ u : Nat, i = .int .i64 j ∧ uu = .int .i64 (u : Int) ∧ (j ≤ n) ∧ (u = setTo y36_ j) ∧ Grow wr w1.heap.size n (fnRow n (fun i => ordTot vs p n m i + bringTo vs p ((perms n).getD m []) i j)) ∧ Below w.heap.size w wr ∧ w24.heap.size ≤ wr.heap.size ∧ Ints wr (lo) (hi) A vs ∧ Rows wr true w5.heap.size w13.heap.size g16_ c17_ (perms n) ∧ Ints wr (w5.heap.size) (w13.heap.size) (some ⟨b38_, f39_, none⟩) y36_) (fun i uu _ => n - (intOf i).toNat)
      case atStart => exact ⟨0, 0, rfl, rfl, Nat.zero_le _, rfl, (by rw [ordRow_start]; exact G25_), k26_, (by first | omega | (simp; omega) | simp), k28_, k29_, F35_⟩
      case round =>
        obtain ⟨j, u, rfl, rfl, hj, hu, G41_, k42_, k43_, k44_, k45_, k46_⟩ := hrel
        obtain ⟨w40, rfl⟩ : ∃ x, x = wr := ⟨_, rfl⟩
        have HL47_ : Hid ((fnRow n (fun i => ordTot vs p n m i + bringTo vs p ((perms n).getD m []) i j)).length = n) := (fnRow_length _ _)
        have l48_ := G41_.lt
        have hub : u < 2 ^ n := by rw [hu]; exact perm_set hn4 (by omega) Hy36_.out (by omega)
        have HU := Lib.hid hu
        clear hu
        by_cases hlt2 : j < n
        · obtain ⟨B49_, d50_, c51_, F52_, rm54_, F52_n⟩ := k45_.at_ m (by omega)
          obtain ⟨b55_, f56_, rfl⟩ := F52_n rfl
          rw [Hy36_.out] at c51_ F52_ rm54_
          rw [HLy36_.out] at c51_ rm54_
          have c51_ : w40.cell? ⟨g16_, m, none⟩ = some (.slice (some ⟨b55_, f56_, none⟩) n d50_) := c51_
          have c51_i : (m : Int) < ((perms n).length : Int) := by omega
          have c51_j : (0 : Int) ≤ (m : Int) := by omega
          have c57_ : w40.cell? ⟨b55_, f56_ + j, none⟩ = some (.int .i64 (y36_.getD j 0)) := F52_.at2 j (by have e := HLy36_.out; omega)
          have c57_i : (j : Int) < (n : Int) := by omega
          have c57_j : (0 : Int) ≤ (j : Int) := by omega
          have v58_g := (show 0 ≤ y36_.getD j 0 ∧ y36_.getD j 0 < (n : Int) from by rw [← Hy36_.out]; exact perm_rg (by omega) (by omega) (by omega))
          obtain ⟨v58_, hv58_⟩ : ∃ v, v = y36_.getD j 0 := ⟨_, rfl⟩
          rw [← hv58_] at c57_ v58_g
          have Hv58_ := Lib.hid hv58_
          clear hv58_
          obtain ⟨v58_g1, v58_g2⟩ := v58_g
          obtain ⟨x59_, hx59_⟩ : ∃ x : Nat, v58_ = (x : Int) := ⟨(v58_).toNat, by omega⟩
          have Hx59_ := Lib.hid hx59_
          have x59_b : x59_ < n := by omega
          obtain ⟨hsh1, hsh2⟩ := pow_bd (n := x59_) (by omega)
          obtain ⟨u2, hu2⟩ : ∃ u2 : Nat, u2 = setTo y36_ (j + 1) := ⟨_, rfl⟩
          have hor : bits .or .i64 (u : Int) (2 ^ x59_) = (u2 : Int) := by rw [hu2]; exact set_next hn4 (by rw [← Hv58_.out]; exact Hx59_.out.symm) x59_b HU.out hub
          have hub2 : u2 < 2 ^ n := by rw [hu2]; exact perm_set hn4 (by omega) Hy36_.out (by omega)
          have HU2 := Lib.hid hu2
          clear hu2
          have c60_ : w40.cell? ⟨w1.heap.size, x59_, none⟩ = some (.int .i64 ((fnRow n (fun i => ordTot vs p n m i + bringTo vs p ((perms n).getD m []) i j)).getD x59_ 0)) := G41_.at_ x59_ (by rw [fnRow_length]; omega)
          have c60_i : (x59_ : Int) < (n : Int) := by omega
          have c60_j : (0 : Int) ≤ (x59_ : Int) := by omega
          have v61_g := ordMid_rg HVB.out HPP.out (m := m) (j := j) (k := x59_) (by omega) (by omega) (by omega)
          obtain ⟨v61_, hv61_⟩ : ∃ v, v = (fnRow n (fun i => ordTot vs p n m i + bringTo vs p ((perms n).getD m []) i j)).getD x59_ 0 := ⟨_, rfl⟩
          rw [← hv61_] at c60_ v61_g
          have Hv61_ := Lib.hid hv61_
          clear hv61_
          obtain ⟨v61_g1, v61_g2⟩ := v61_g
          obtain ⟨v62_, hv62_⟩ : ∃ v, worthP vs u2 = v := ⟨_, rfl⟩
          have v62_g := worthP_rg HVB.out u2
          rw [hv62_] at v62_g
          obtain ⟨v62_g1, v62_g2⟩ := v62_g
          have Hv62_ := Lib.hid hv62_
          clear hv62_
          obtain ⟨v63_, hv63_⟩ : ∃ v, worthP vs u = v := ⟨_, rfl⟩
          have v63_g := worthP_rg HVB.out u
          rw [hv63_] at v63_g
          obtain ⟨v63_g1, v63_g2⟩ := v63_g
          have Hv63_ := Lib.hid hv63_
          clear hv63_
          obtain ⟨P64_, hP64_⟩ : ∃ P, (48 * p) * (v62_ - v63_) = P := ⟨_, rfl⟩
          have bP64_ := mul_rg6 (a := (48 * p)) (b := (v62_ - v63_)) (by omega) (by omega)
          rw [hP64_] at bP64_
          obtain ⟨bP64_, bP64_'⟩ := bP64_
          have wP64_ : IntKind.i64.wrap P64_ = P64_ := IntWalk.i64_in _ (by omega)
          have hw65_ : IntKind.i64.wrap (48 * p) = (48 * p) := IntWalk.i64_in _ (by omega)
          have hw66_ : IntKind.i64.wrap (v62_ - v63_) = (v62_ - v63_) := IntWalk.i64_in _ (by omega)
          have hw67_ : IntKind.i64.wrap P64_ = P64_ := IntWalk.i64_in _ (by omega)
          have hw68_ : IntKind.i64.wrap (v61_ + P64_) = (v61_ + P64_) := IntWalk.i64_in _ (by omega)
          have g77_ : hi ≤ w40.heap.size := (by first | omega | (simp; omega) | simp)
          have g78_ : w13.heap.size ≤ w40.heap.size := (by first | omega | (simp; omega) | simp)
          have g79_ : w13.heap.size ≤ w40.heap.size := (by first | omega | (simp; omega) | simp)
          have g80_ : w1.heap.size + 1 ≤ w40.heap.size := (by first | omega | (simp; omega) | simp)
          have g81_ : w13.heap.size ≤ w40.heap.size := (by first | omega | (simp; omega) | simp)
          have g82_ : g16_ < w40.heap.size := (by first | omega | (simp; omega) | simp)
          have g83_ : w1.heap.size < w40.heap.size := (by first | omega | (simp; omega) | simp)
          have g84_ : b55_ < w40.heap.size := (by have e := Ints.blk F52_ (Nat.lt_of_le_of_lt (Nat.zero_le j) (by have e := HLy36_.out; omega)); first | omega | (simp at e ⊢; omega))
          have g85_ : w.heap.size ≤ w40.heap.size := (by first | omega | (simp; omega) | simp)
          have c86_i : (x59_ : Int) < (n : Int) := by omega
          have c86_j : (0 : Int) ≤ (x59_ : Int) := by omega
          go_wp2_with fail
          refine till_region (S := (fun w' : World => Below w.heap.size w w' ∧ w40.heap.size ≤ w'.heap.size ∧ Ints w' (lo) (hi) A vs ∧ Rows w' true w5.heap.size w13.heap.size g16_ c17_ (perms n) ∧ Ints w' (w5.heap.size) (w13.heap.size) (some ⟨b38_, f39_, none⟩) y36_ ∧ Grow w' w1.heap.size n (fnRow n (fun i => ordTot vs p n m i + bringTo vs p ((perms n).getD m []) i j)) ∧ Ints w' (w5.heap.size) (w13.heap.size) (some ⟨b55_, f56_, none⟩) y36_ ∧ w'.cell? ⟨g16_, m, none⟩ = some (.slice (some ⟨b55_, f56_, none⟩) n d50_) ∧ w'.cell? ⟨w1.heap.size, x59_, none⟩ = some (.int .i64 v61_) ∧ w'.cell? ⟨b55_, f56_ + j, none⟩ = some (.int .i64 v58_) ∧ w40.heap.size ≤ w'.heap.size)) 32 (by kernel_rfl) ⟨k42_.drew, by exact (by first | omega | (simp; omega) | simp), k44_, k45_, k46_, G41_, F52_, c51_, c60_, c57_, Nat.le_refl _⟩ (fun hHeld => ?_)
          refine Till.take (i := 0) (oi := ?oi1) (v := ?vv1) (m := 1) ?hi1 ?hs1 ?hf1 ?ha1 ?hq1 ?hy1 hHeld ?hc1 ?hw1 ?hr1
          case hc1 => kernel_rfl
          case hw1 => kernel_rfl
          case hi1 => (simp only [List.getElem?_toArray, List.getElem?_cons_zero]; exact rfl)
          case hs1 => kernel_rfl
          case hf1 => kernel_rfl
          case ha1 => kernel_rfl
          case hq1 => exact fun _ _ _ h => h
          case hy1 =>
            refine Or.inl ⟨by rfl, ?_⟩
            intro w' hSw
            try dsimp only at hSw
            go_simp
            first | done | with_reducible rfl
          simp only [Act.put, List.setIfInBounds_toArray, List.set_cons_succ, List.set_cons_zero]
          refine Till.take (i := 1) (oi := ?oi2) (v := ?vv2) (m := 1) ?hi2 ?hs2 ?hf2 ?ha2 ?hq2 ?hy2 hHeld ?hc2 ?hw2 ?hr2
          case hc2 => kernel_rfl
          case hw2 => kernel_rfl
          case hi2 => (simp only [List.getElem?_toArray, List.getElem?_cons_succ, List.getElem?_cons_zero]; exact rfl)
          case hs2 => kernel_rfl
          case hf2 => kernel_rfl
          case ha2 => kernel_rfl
          case hq2 => exact fun _ _ _ h => h
          case hy2 =>
            refine Or.inl ⟨by rfl, ?_⟩
            intro w' hSw
            try dsimp only at hSw
            go_simp
            first | done | with_reducible rfl
          simp only [Act.put, List.setIfInBounds_toArray, List.set_cons_succ, List.set_cons_zero]
          refine Till.take (i := 2) (oi := ?oi3) (v := ?vv3) (m := 1) ?hi3 ?hs3 ?hf3 ?ha3 ?hq3 ?hy3 hHeld ?hc3 ?hw3 ?hr3
          case hc3 => kernel_rfl
          case hw3 => kernel_rfl
          case hi3 => (simp only [List.getElem?_toArray, List.getElem?_cons_succ, List.getElem?_cons_zero]; exact rfl)
          case hs3 => kernel_rfl
          case hf3 => kernel_rfl
          case ha3 => kernel_rfl
          case hq3 => exact fun _ _ _ h => h
          case hy3 =>
            refine Or.inl ⟨by rfl, ?_⟩
            intro w' hSw
            try dsimp only at hSw
            go_simp
            first | done | with_reducible rfl
          simp only [Act.put, List.setIfInBounds_toArray, List.set_cons_succ, List.set_cons_zero]
          refine Till.take (i := 3) (oi := ?oi4) (v := ?vv4) (m := 1) ?hi4 ?hs4 ?hf4 ?ha4 ?hq4 ?hy4 hHeld ?hc4 ?hw4 ?hr4
          case hc4 => kernel_rfl
          case hw4 => kernel_rfl
          case hi4 => (simp only [List.getElem?_toArray, List.getElem?_cons_succ, List.getElem?_cons_zero]; exact rfl)
          case hs4 => kernel_rfl
          case hf4 => kernel_rfl
          case ha4 => kernel_rfl
          case hq4 => exact fun _ _ _ h => h
          case hy4 =>
            refine Or.inl ⟨by rfl, ?_⟩
            intro w' hSw
            try dsimp only at hSw
            go_simp
            first | done | with_reducible rfl
          simp only [Act.put, List.setIfInBounds_toArray, List.set_cons_succ, List.set_cons_zero]
          refine Till.take (i := 4) (oi := ?oi5) (v := ?vv5) (m := 1) ?hi5 ?hs5 ?hf5 ?ha5 ?hq5 ?hy5 hHeld ?hc5 ?hw5 ?hr5
          case hc5 => kernel_rfl
          case hw5 => kernel_rfl
          case hi5 => (simp only [List.getElem?_toArray, List.getElem?_cons_succ, List.getElem?_cons_zero]; exact rfl)
          case hs5 => kernel_rfl
          case hf5 => kernel_rfl
          case ha5 => kernel_rfl
          case hq5 => exact fun _ _ _ h => h
          case hy5 =>
            refine Or.inl ⟨by rfl, ?_⟩
            intro w' hSw
            try dsimp only at hSw
            go_simp
            first | done | with_reducible rfl
          simp only [Act.put, List.setIfInBounds_toArray, List.set_cons_succ, List.set_cons_zero]
          refine Till.take (i := 5) (oi := ?oi6) (v := ?vv6) (m := 1) ?hi6 ?hs6 ?hf6 ?ha6 ?hq6 ?hy6 hHeld ?hc6 ?hw6 ?hr6
          case hc6 => kernel_rfl
          case hw6 => kernel_rfl
          case hi6 => (simp only [List.getElem?_toArray, List.getElem?_cons_succ, List.getElem?_cons_zero]; exact rfl)
          case hs6 => kernel_rfl
          case hf6 => kernel_rfl
          case ha6 => kernel_rfl
          case hq6 => exact fun _ _ _ h => h
          case hy6 =>
            refine Or.inl ⟨by rfl, ?_⟩
            intro w' hSw
            try dsimp only at hSw
            go_simp
            first | done | with_reducible rfl
          simp only [Act.put, List.setIfInBounds_toArray, List.set_cons_succ, List.set_cons_zero]
          refine Till.take (i := 6) (oi := ?oi7) (v := ?vv7) (m := 1) ?hi7 ?hs7 ?hf7 ?ha7 ?hq7 ?hy7 hHeld ?hc7 ?hw7 ?hr7
          case hc7 => kernel_rfl
          case hw7 => kernel_rfl
          case hi7 => (simp only [List.getElem?_toArray, List.getElem?_cons_succ, List.getElem?_cons_zero]; exact rfl)
          case hs7 => kernel_rfl
          case hf7 => kernel_rfl
          case ha7 => kernel_rfl
          case hq7 => exact fun _ _ _ h => h
          case hy7 =>
            refine Or.inl ⟨by rfl, ?_⟩
            intro w' hSw
            try dsimp only at hSw
            go_simp
            first | done | with_reducible rfl
          simp only [Act.put, List.setIfInBounds_toArray, List.set_cons_succ, List.set_cons_zero]
          refine Till.take (i := 7) (oi := ?oi8) (v := ?vv8) (m := 1) ?hi8 ?hs8 ?hf8 ?ha8 ?hq8 ?hy8 hHeld ?hc8 ?hw8 ?hr8
          case hc8 => kernel_rfl
          case hw8 => kernel_rfl
          case hi8 => (simp only [List.getElem?_toArray, List.getElem?_cons_succ, List.getElem?_cons_zero]; exact rfl)
          case hs8 => kernel_rfl
          case hf8 => kernel_rfl
          case ha8 => kernel_rfl
          case hq8 => exact fun _ _ _ h => h
          case hy8 =>
            refine Or.inl ⟨by rfl, ?_⟩
            intro w' hSw
            try dsimp only at hSw
            go_simp
            first | done | with_reducible rfl
          simp only [Act.put, List.setIfInBounds_toArray, List.set_cons_succ, List.set_cons_zero]
          refine Till.take (i := 8) (oi := ?oi9) (v := ?vv9) (m := 1) ?hi9 ?hs9 ?hf9 ?ha9 ?hq9 ?hy9 hHeld ?hc9 ?hw9 ?hr9
          case hc9 => kernel_rfl
          case hw9 => kernel_rfl
          case hi9 => (simp only [List.getElem?_toArray, List.getElem?_cons_succ, List.getElem?_cons_zero]; exact rfl)
          case hs9 => kernel_rfl
          case hf9 => kernel_rfl
          case ha9 => kernel_rfl
          case hq9 => exact fun _ _ _ h => h
          case hy9 =>
            refine Or.inl ⟨by rfl, ?_⟩
            intro w' hSw
            try dsimp only at hSw
            go_simp
            first | done | with_reducible rfl
          simp only [Act.put, List.setIfInBounds_toArray, List.set_cons_succ, List.set_cons_zero]
          refine Till.take (i := 9) (oi := ?oi10) (v := ?vv10) (m := 1) ?hi10 ?hs10 ?hf10 ?ha10 ?hq10 ?hy10 hHeld ?hc10 ?hw10 ?hr10
          case hc10 => kernel_rfl
          case hw10 => kernel_rfl
          case hi10 => (simp only [List.getElem?_toArray, List.getElem?_cons_succ, List.getElem?_cons_zero]; exact rfl)
          case hs10 => kernel_rfl
          case hf10 => kernel_rfl
          case ha10 => kernel_rfl
          case hq10 => exact fun _ _ _ h => h
          case hy10 =>
            refine Or.inl ⟨by rfl, ?_⟩
            intro w' hSw
            try dsimp only at hSw
            go_simp
            first | done | with_reducible rfl
          simp only [Act.put, List.setIfInBounds_toArray, List.set_cons_succ, List.set_cons_zero]
          refine Till.take (i := 10) (oi := ?oi11) (v := ?vv11) (m := 1) ?hi11 ?hs11 ?hf11 ?ha11 ?hq11 ?hy11 hHeld ?hc11 ?hw11 ?hr11
          case hc11 => kernel_rfl
          case hw11 => kernel_rfl
          case hi11 => (simp only [List.getElem?_toArray, List.getElem?_cons_succ, List.getElem?_cons_zero]; exact rfl)
          case hs11 => kernel_rfl
          case hf11 => kernel_rfl
          case ha11 => kernel_rfl
          case hq11 => exact fun _ _ _ h => h
          case hy11 =>
            refine Or.inl ⟨by rfl, ?_⟩
            intro w' hSw
            try dsimp only at hSw
            go_simp
            first | done | with_reducible rfl
          simp only [Act.put, List.setIfInBounds_toArray, List.set_cons_succ, List.set_cons_zero]
          refine Till.take (i := 11) (oi := ?oi12) (v := ?vv12) (m := 1) ?hi12 ?hs12 ?hf12 ?ha12 ?hq12 ?hy12 hHeld ?hc12 ?hw12 ?hr12
          case hc12 => kernel_rfl
          case hw12 => kernel_rfl
          case hi12 => (simp only [List.getElem?_toArray, List.getElem?_cons_succ, List.getElem?_cons_zero]; exact rfl)
          case hs12 => kernel_rfl
          case hf12 => kernel_rfl
          case ha12 => kernel_rfl
          case hq12 => exact fun _ _ _ h => h
          case hy12 =>
            refine Or.inl ⟨by rfl, ?_⟩
            intro w' hSw
            try dsimp only at hSw
            go_simp
            first | done | with_reducible rfl
          simp only [Act.put, List.setIfInBounds_toArray, List.set_cons_succ, List.set_cons_zero]
          refine Till.take (i := 12) (oi := ?oi13) (v := ?vv13) (m := 1) ?hi13 ?hs13 ?hf13 ?ha13 ?hq13 ?hy13 hHeld ?hc13 ?hw13 ?hr13
          case hc13 => kernel_rfl
          case hw13 => kernel_rfl
          case hi13 => (simp only [List.getElem?_toArray, List.getElem?_cons_succ, List.getElem?_cons_zero]; exact rfl)
          case hs13 => kernel_rfl
          case hf13 => kernel_rfl
          case ha13 => kernel_rfl
          case hq13 => exact fun _ _ _ h => h
          case hy13 =>
            refine Or.inl ⟨by rfl, ?_⟩
            intro w' hSw
            try dsimp only at hSw
            go_simp
            first | done | with_reducible rfl
          simp only [Act.put, List.setIfInBounds_toArray, List.set_cons_succ, List.set_cons_zero]
          refine Till.take (i := 13) (oi := ?oi14) (v := ?vv14) (m := 1) ?hi14 ?hs14 ?hf14 ?ha14 ?hq14 ?hy14 hHeld ?hc14 ?hw14 ?hr14
          case hc14 => kernel_rfl
          case hw14 => kernel_rfl
          case hi14 => (simp only [List.getElem?_toArray, List.getElem?_cons_succ, List.getElem?_cons_zero]; exact rfl)
          case hs14 => kernel_rfl
          case hf14 => kernel_rfl
          case ha14 => kernel_rfl
          case hq14 => exact fun _ _ _ h => h
          case hy14 =>
            refine Or.inl ⟨by rfl, ?_⟩
            intro w' hSw
            try dsimp only at hSw
            go_simp
            first | done | with_reducible rfl
          simp only [Act.put, List.setIfInBounds_toArray, List.set_cons_succ, List.set_cons_zero]
          refine Till.take (i := 14) (oi := ?oi15) (v := ?vv15) (m := 1) ?hi15 ?hs15 ?hf15 ?ha15 ?hq15 ?hy15 hHeld ?hc15 ?hw15 ?hr15
          case hc15 => kernel_rfl
          case hw15 => kernel_rfl
          case hi15 => (simp only [List.getElem?_toArray, List.getElem?_cons_succ, List.getElem?_cons_zero]; exact rfl)
          case hs15 => kernel_rfl
          case hf15 => kernel_rfl
          case ha15 => kernel_rfl
          case hq15 => exact fun _ _ _ h => h
          case hy15 =>
            refine Or.inl ⟨by rfl, ?_⟩
            intro w' hSw
            try dsimp only at hSw
            go_simp
            first | done | with_reducible rfl
          simp only [Act.put, List.setIfInBounds_toArray, List.set_cons_succ, List.set_cons_zero]
          refine Till.take (i := 15) (oi := ?oi16) (v := ?vv16) (m := 1) ?hi16 ?hs16 ?hf16 ?ha16 ?hq16 ?hy16 hHeld ?hc16 ?hw16 ?hr16
          case hc16 => kernel_rfl
          case hw16 => kernel_rfl
          case hi16 => (simp only [List.getElem?_toArray, List.getElem?_cons_succ, List.getElem?_cons_zero]; exact rfl)
          case hs16 => kernel_rfl
          case hf16 => kernel_rfl
          case ha16 => kernel_rfl
          case hq16 => exact fun _ _ _ h => h
          case hy16 =>
            refine Or.inl ⟨by rfl, ?_⟩
            intro w' hSw
            try dsimp only at hSw
            go_simp
            first | done | with_reducible rfl
          simp only [Act.put, List.setIfInBounds_toArray, List.set_cons_succ, List.set_cons_zero]
          refine Till.take (i := 16) (oi := ?oi17) (v := ?vv17) (m := 1) ?hi17 ?hs17 ?hf17 ?ha17 ?hq17 ?hy17 hHeld ?hc17 ?hw17 ?hr17
          case hc17 => kernel_rfl
          case hw17 => kernel_rfl
          case hi17 => (simp only [List.getElem?_toArray, List.getElem?_cons_succ, List.getElem?_cons_zero]; exact rfl)
          case hs17 => kernel_rfl
          case hf17 => kernel_rfl
          case ha17 => kernel_rfl
          case hq17 => exact fun _ _ _ h => h
          case hy17 =>
            refine Or.inl ⟨by rfl, ?_⟩
            intro w' hSw
            try dsimp only at hSw
            go_simp
            first | done | with_reducible rfl
          simp only [Act.put, List.setIfInBounds_toArray, List.set_cons_succ, List.set_cons_zero]
          refine Till.take (i := 17) (oi := ?oi18) (v := ?vv18) (m := 1) ?hi18 ?hs18 ?hf18 ?ha18 ?hq18 ?hy18 hHeld ?hc18 ?hw18 ?hr18
          case hc18 => kernel_rfl
          case hw18 => kernel_rfl
          case hi18 => (simp only [List.getElem?_toArray, List.getElem?_cons_succ, List.getElem?_cons_zero]; exact rfl)
          case hs18 => kernel_rfl
          case hf18 => kernel_rfl
          case ha18 => kernel_rfl
          case hq18 => exact fun _ _ _ h => h
          case hy18 =>
            refine Or.inl ⟨by rfl, ?_⟩
            intro w' hSw
            try dsimp only at hSw
            go_simp
            first | done | with_reducible rfl
          simp only [Act.put, List.setIfInBounds_toArray, List.set_cons_succ, List.set_cons_zero]
          refine Till.take (i := 18) (oi := ?oi19) (v := ?vv19) (m := 1) ?hi19 ?hs19 ?hf19 ?ha19 ?hq19 ?hy19 hHeld ?hc19 ?hw19 ?hr19
          case hc19 => kernel_rfl
          case hw19 => kernel_rfl
          case hi19 => (simp only [List.getElem?_toArray, List.getElem?_cons_succ, List.getElem?_cons_zero]; exact rfl)
          case hs19 => kernel_rfl
          case hf19 => kernel_rfl
          case ha19 => kernel_rfl
          case hq19 => exact fun _ _ _ h => h
          case hy19 =>
            refine Or.inl ⟨by rfl, ?_⟩
            intro w' hSw
            try dsimp only at hSw
            go_simp
            first | done | with_reducible rfl
          simp only [Act.put, List.setIfInBounds_toArray, List.set_cons_succ, List.set_cons_zero]
          refine Till.take (i := 19) (oi := ?oi20) (v := ?vv20) (m := 1) ?hi20 ?hs20 ?hf20 ?ha20 ?hq20 ?hy20 hHeld ?hc20 ?hw20 ?hr20
          case hc20 => kernel_rfl
          case hw20 => kernel_rfl
          case hi20 => (simp only [List.getElem?_toArray, List.getElem?_cons_succ, List.getElem?_cons_zero]; exact rfl)
          case hs20 => kernel_rfl
          case hf20 => kernel_rfl
          case ha20 => kernel_rfl
          case hq20 => exact fun _ _ _ h => h
          case hy20 =>
            refine Or.inl ⟨by rfl, ?_⟩
            intro w' hSw
            try dsimp only at hSw
            go_simp
            first | done | with_reducible rfl
          simp only [Act.put, List.setIfInBounds_toArray, List.set_cons_succ, List.set_cons_zero]
          refine Till.take (i := 20) (oi := ?oi21) (v := ?vv21) (m := 1) ?hi21 ?hs21 ?hf21 ?ha21 ?hq21 ?hy21 hHeld ?hc21 ?hw21 ?hr21
          case hc21 => kernel_rfl
          case hw21 => kernel_rfl
          case hi21 => (simp only [List.getElem?_toArray, List.getElem?_cons_succ, List.getElem?_cons_zero]; exact rfl)
          case hs21 => kernel_rfl
          case hf21 => kernel_rfl
          case ha21 => kernel_rfl
          case hq21 => exact fun _ _ _ h => h
          case hy21 =>
            refine Or.inl ⟨by rfl, ?_⟩
            intro w' hSw
            try dsimp only at hSw
            go_simp
            first | done | with_reducible rfl
          simp only [Act.put, List.setIfInBounds_toArray, List.set_cons_succ, List.set_cons_zero]
          refine Till.take (i := 21) (oi := ?oi22) (v := ?vv22) (m := 1) ?hi22 ?hs22 ?hf22 ?ha22 ?hq22 ?hy22 hHeld ?hc22 ?hw22 ?hr22
          case hc22 => kernel_rfl
          case hw22 => kernel_rfl
          case hi22 => (simp only [List.getElem?_toArray, List.getElem?_cons_succ, List.getElem?_cons_zero]; exact rfl)
          case hs22 => kernel_rfl
          case hf22 => kernel_rfl
          case ha22 => kernel_rfl
          case hq22 => exact fun _ _ _ h => h
          case hy22 =>
            refine Or.inl ⟨by rfl, ?_⟩
            intro w' hSw
            try dsimp only at hSw
            go_simp
            first | done | with_reducible rfl
          simp only [Act.put, List.setIfInBounds_toArray, List.set_cons_succ, List.set_cons_zero]
          refine Till.take (i := 22) (oi := ?oi23) (v := ?vv23) (m := 1) ?hi23 ?hs23 ?hf23 ?ha23 ?hq23 ?hy23 hHeld ?hc23 ?hw23 ?hr23
          case hc23 => kernel_rfl
          case hw23 => kernel_rfl
          case hi23 => (simp only [List.getElem?_toArray, List.getElem?_cons_succ, List.getElem?_cons_zero]; exact rfl)
          case hs23 => kernel_rfl
          case hf23 => kernel_rfl
          case ha23 => kernel_rfl
          case hq23 => exact fun _ _ _ h => h
          case hy23 =>
            refine Or.inl ⟨by rfl, ?_⟩
            intro w' hSw
            try dsimp only at hSw
            go_simp
            first | done | with_reducible rfl
          simp only [Act.put, List.setIfInBounds_toArray, List.set_cons_succ, List.set_cons_zero]
          refine Till.take (i := 24) (oi := ?oi24) (v := ?vv24) (m := 1) ?hi24 ?hs24 ?hf24 ?ha24 ?hq24 ?hy24 hHeld ?hc24 ?hw24 ?hr24
          case hc24 => kernel_rfl
          case hw24 => kernel_rfl
          case hi24 => (simp only [List.getElem?_toArray, List.getElem?_cons_succ, List.getElem?_cons_zero]; exact rfl)
          case hs24 => kernel_rfl
          case hf24 => kernel_rfl
          case ha24 => kernel_rfl
          case hq24 => exact fun _ _ _ h => h
          case hy24 =>
            refine Or.inl ⟨by rfl, ?_⟩
            intro w' hSw
            try dsimp only at hSw
            go_simp
            first | done | with_reducible rfl
          simp only [Act.put, List.setIfInBounds_toArray, List.set_cons_succ, List.set_cons_zero]
          refine Till.take (i := 25) (oi := ?oi25) (v := ?vv25) (m := 1) ?hi25 ?hs25 ?hf25 ?ha25 ?hq25 ?hy25 hHeld ?hc25 ?hw25 ?hr25
          case hc25 => kernel_rfl
          case hw25 => kernel_rfl
          case hi25 => (simp only [List.getElem?_toArray, List.getElem?_cons_succ, List.getElem?_cons_zero]; exact rfl)
          case hs25 => kernel_rfl
          case hf25 => kernel_rfl
          case ha25 => kernel_rfl
          case hq25 => exact fun _ _ _ h => h
          case hy25 =>
            refine Or.inl ⟨by rfl, ?_⟩
            intro w' hSw
            try dsimp only at hSw
            go_simp
            first | done | with_reducible rfl
          simp only [Act.put, List.setIfInBounds_toArray, List.set_cons_succ, List.set_cons_zero]
          refine Till.take (i := 26) (oi := ?oi26) (v := ?vv26) (m := 1) ?hi26 ?hs26 ?hf26 ?ha26 ?hq26 ?hy26 hHeld ?hc26 ?hw26 ?hr26
          case hc26 => kernel_rfl
          case hw26 => kernel_rfl
          case hi26 => (simp only [List.getElem?_toArray, List.getElem?_cons_succ, List.getElem?_cons_zero]; exact rfl)
          case hs26 => kernel_rfl
          case hf26 => kernel_rfl
          case ha26 => kernel_rfl
          case hq26 => exact fun _ _ _ h => h
          case hy26 =>
            refine Or.inl ⟨by rfl, ?_⟩
            intro w' hSw
            try dsimp only at hSw
            go_simp
            first | done | with_reducible rfl
          simp only [Act.put, List.setIfInBounds_toArray, List.set_cons_succ, List.set_cons_zero]
          refine Till.one (i := 23) (by kernel_rfl) rfl (fun K hK => ?_)
          go_simp
          go_at_call 24
          obtain ⟨BB, zz, k69_, k70_, k71_, k72_, k73_, q74_, q75_, q76_, zw⟩ := hHeld
          (with_reducible refine (below_is (specPassWorth_in n A c vs u2 _ _ _ k69_ (by first | omega | (simp; omega) | simp) hl HVB.out (by omega)) (congrArg (Value.int .i64) Hv62_.out)).mono ?_)
          rintro e w87 ⟨rfl, hb9⟩
          refine hK.out _ _ ⟨BB.trans (hb9.mono (by omega)), Nat.le_trans zz hb9.size, k69_.below hb9 (by first | omega | (simp; omega) | simp), k70_.below hb9 (by first | omega | (simp; omega) | simp), k71_.below hb9 (by first | omega | (simp; omega) | simp), k72_.below hb9 (by first | omega | (simp; omega) | simp), k73_.below hb9 (by first | omega | (simp; omega) | simp), (hb9.cell (by show g16_ < _; omega)).trans q74_, (hb9.cell (by show w1.heap.size < _; omega)).trans q75_, (hb9.cell (by show b55_ < _; omega)).trans q76_, Nat.le_trans zw hb9.size⟩ (fun hHeld => ?_)
          clear hb9 zw q76_ q75_ q74_ k73_ k72_ k71_ k70_ k69_ zz BB
          clear hK K
          try simp only [Act.put, List.setIfInBounds_toArray, List.set_cons_zero, List.set_cons_succ]
          refine Till.one (i := 27) (by kernel_rfl) rfl (fun K hK => ?_)
          go_simp
          go_at_call 24
          obtain ⟨BB, zz, k69_, k70_, k71_, k72_, k73_, q74_, q75_, q76_, zw⟩ := hHeld
          (with_reducible refine (below_is (specPassWorth_in n A c vs u _ _ _ k69_ (by first | omega | (simp; omega) | simp) hl HVB.out (by omega)) (congrArg (Value.int .i64) Hv63_.out)).mono ?_)
          rintro e w88 ⟨rfl, hb9⟩
          refine hK.out _ _ ⟨BB.trans (hb9.mono (by omega)), Nat.le_trans zz hb9.size, k69_.below hb9 (by first | omega | (simp; omega) | simp), k70_.below hb9 (by first | omega | (simp; omega) | simp), k71_.below hb9 (by first | omega | (simp; omega) | simp), k72_.below hb9 (by first | omega | (simp; omega) | simp), k73_.below hb9 (by first | omega | (simp; omega) | simp), (hb9.cell (by show g16_ < _; omega)).trans q74_, (hb9.cell (by show w1.heap.size < _; omega)).trans q75_, (hb9.cell (by show b55_ < _; omega)).trans q76_, Nat.le_trans zw hb9.size⟩ (fun hHeld => ?_)
          clear hb9 zw q76_ q75_ q74_ k73_ k72_ k71_ k70_ k69_ zz BB
          clear hK K
          try simp only [Act.put, List.setIfInBounds_toArray, List.set_cons_zero, List.set_cons_succ]
          refine Till.take (i := 28) (oi := ?oi27) (v := ?vv27) (m := 1) ?hi27 ?hs27 ?hf27 ?ha27 ?hq27 ?hy27 hHeld ?hc27 ?hw27 ?hr27
          case hc27 => kernel_rfl
          case hw27 => kernel_rfl
          case hi27 => (simp only [List.getElem?_toArray, List.getElem?_cons_succ, List.getElem?_cons_zero]; exact rfl)
          case hs27 => kernel_rfl
          case hf27 => kernel_rfl
          case ha27 => kernel_rfl
          case hq27 => exact fun _ _ _ h => h
          case hy27 =>
            refine Or.inl ⟨by rfl, ?_⟩
            intro w' hSw
            try dsimp only at hSw
            go_simp
            first | done | with_reducible rfl
          simp only [Act.put, List.setIfInBounds_toArray, List.set_cons_succ, List.set_cons_zero]
          refine Till.take (i := 29) (oi := ?oi28) (v := ?vv28) (m := 1) ?hi28 ?hs28 ?hf28 ?ha28 ?hq28 ?hy28 hHeld ?hc28 ?hw28 ?hr28
          case hc28 => kernel_rfl
          case hw28 => kernel_rfl
          case hi28 => (simp only [List.getElem?_toArray, List.getElem?_cons_succ, List.getElem?_cons_zero]; exact rfl)
          case hs28 => kernel_rfl
          case hf28 => kernel_rfl
          case ha28 => kernel_rfl
          case hq28 => exact fun _ _ _ h => h
          case hy28 =>
            refine Or.inl ⟨by rfl, ?_⟩
            intro w' hSw
            try dsimp only at hSw
            go_simp
            first | done | with_reducible rfl
          simp only [Act.put, List.setIfInBounds_toArray, List.set_cons_succ, List.set_cons_zero]
          refine Till.take (i := 30) (oi := ?oi29) (v := ?vv29) (m := 1) ?hi29 ?hs29 ?hf29 ?ha29 ?hq29 ?hy29 hHeld ?hc29 ?hw29 ?hr29
          case hc29 => kernel_rfl
          case hw29 => kernel_rfl
          case hi29 => (simp only [List.getElem?_toArray, List.getElem?_cons_succ, List.getElem?_cons_zero]; exact rfl)
          case hs29 => kernel_rfl
          case hf29 => kernel_rfl
          case ha29 => kernel_rfl
          case hq29 => exact fun _ _ _ h => h
          case hy29 =>
            refine Or.inl ⟨by rfl, ?_⟩
            intro w' hSw
            try dsimp only at hSw
            go_simp
            first | done | with_reducible rfl
          simp only [Act.put, List.setIfInBounds_toArray, List.set_cons_succ, List.set_cons_zero]
          refine Till.take (i := 31) (oi := ?oi30) (v := ?vv30) (m := 1) ?hi30 ?hs30 ?hf30 ?ha30 ?hq30 ?hy30 hHeld ?hc30 ?hw30 ?hr30
          case hc30 => kernel_rfl
          case hw30 => kernel_rfl
          case hi30 => (simp only [List.getElem?_toArray, List.getElem?_cons_succ, List.getElem?_cons_zero]; exact rfl)
          case hs30 => kernel_rfl
          case hf30 => kernel_rfl
          case ha30 => kernel_rfl
          case hq30 => exact fun _ _ _ h => h
          case hy30 =>
            refine Or.inl ⟨by rfl, ?_⟩
            intro w' hSw
            try dsimp only at hSw
            go_simp
            first | done | with_reducible rfl
          simp only [Act.put, List.setIfInBounds_toArray, List.set_cons_succ, List.set_cons_zero]
          refine Till.last (by kernel_rfl) rfl (fun K hK => ?_)
          obtain ⟨BB, zz, k69_, k70_, k71_, k72_, k73_, q74_, q75_, q76_, zw⟩ := hHeld
          have c86_ := k72_.at_ x59_ (by rw [fnRow_length]; omega)
          have c86_f := k72_.soft x59_ (by rw [fnRow_length]; omega)
          go_simp
          refine hK.out _ _ ?_
          clear hK K
          try simp only [Act.put, List.setIfInBounds_toArray, List.set_cons_zero, List.set_cons_succ]
          refine Till.done (by kernel_rfl) ?_ _
          clear hw65_ hw66_ hw67_ hw68_
          have k89_ := BB
          clear BB
          have k90_ := zz
          clear zz
          have k91_ := zw
          clear zw
          have hC92_ := Chg.setCell (lo := w1.heap.size) (hi := w1.heap.size + 1) w88 (p := ⟨w1.heap.size, x59_, none⟩) ⟨Nat.le_refl _, Nat.lt_succ_self _⟩ (.int .i64 (v61_ + P64_))
          have G93_ := k72_.store x59_ (v61_ + P64_)
          have o95_ := k69_.chg hC92_ (by first | omega | (simp; omega) | simp) (by omega)
          have o96_ := k70_.chg hC92_ (by omega)
          have o97_ := k71_.chg hC92_ (by first | omega | (simp; omega) | simp) (by omega)
          have o98_ := k73_.chg hC92_ (by first | omega | (simp; omega) | simp) (by omega)
          have z99_ := hC92_.size
          try simp at z99_
          have B100_ := k89_.trans (hC92_.below (by omega) (by first | omega | (simp; omega) | simp))
          clear hC92_
          have HL94_ : Hid (((fnRow n (fun i => ordTot vs p n m i + bringTo vs p ((perms n).getD m []) i j)).set x59_ (v61_ + P64_)).length = n) := by show _ = _; rw [List.length_set]; first | rfl | omega | exact HL47_.out
          go_wp2
          go_roundw
          case rel => exact ⟨j + 1, u2, by go_num, by go_num, by omega, HU2.out, (by rw [← ord_step (y := y36_) (x := x59_) (u := u) (u2 := u2) (o := v61_) (A := v62_) (B := v63_) (P := P64_) (v := v58_) Hy36_.out (by omega) Hv58_.out Hx59_.out HU.out HU2.out Hv61_.out Hv62_.out Hv63_.out hP64_]; exact G93_), B100_, (by first | omega | (simp; omega) | simp), o95_, o96_, o97_⟩
          case measure => simp [intOf] <;> omega
        · obtain ⟨B49_, d50_, c51_, F52_, rm54_, F52_n⟩ := k45_.at_ m (by omega)
          obtain ⟨b55_, f56_, rfl⟩ := F52_n rfl
          rw [Hy36_.out] at c51_ F52_ rm54_
          rw [HLy36_.out] at c51_ rm54_
          have c51_ : w40.cell? ⟨g16_, m, none⟩ = some (.slice (some ⟨b55_, f56_, none⟩) n d50_) := c51_
          have c51_i : (m : Int) < ((perms n).length : Int) := by omega
          have c51_j : (0 : Int) ≤ (m : Int) := by omega
          go_wp2
          go_roundw
          case rel => exact ⟨m + 1, by go_num, by omega, (by have e := G41_; rw [ordRow_next vs p (by omega) (show j = n by omega)] at e; exact e), k42_, (by first | omega | (simp; omega) | simp), k44_, k45_⟩
          case measure => simp [intOf] <;> omega
    · obtain rfl : m = (perms n).length := by omega
      go_wp2
      go_loopw [13] (fun i wr => ∃ q : Nat, i = .int .i64 q ∧ (q ≤ n) ∧ Grow wr w1.heap.size n (fnRow n (fun i => if i < q then passAt vs p n i else ordTot vs p n (perms n).length i)) ∧ Below w.heap.size w wr ∧ w24.heap.size ≤ wr.heap.size ∧ Ints wr (lo) (hi) A vs ∧ Rows wr true w5.heap.size w13.heap.size g16_ c17_ (perms n)) (fun i _ => n - (intOf i).toNat)
      case atStart => exact ⟨0, rfl, Nat.zero_le _, (by rw [ordDiv_zero]; exact G25_), k26_, (by first | omega | (simp; omega) | simp), k28_, k29_⟩
      case round =>
        obtain ⟨q, rfl, hq, G33_, k34_, k35_, k36_, k37_⟩ := hrel
        obtain ⟨w32, rfl⟩ : ∃ x, x = wr := ⟨_, rfl⟩
        have HL38_ : Hid ((fnRow n (fun i => if i < q then passAt vs p n i else ordTot vs p n (perms n).length i)).length = n) := (fnRow_length _ _)
        have l39_ := G33_.lt
        by_cases hlt4 : q < n
        · have c40_ : w32.cell? ⟨w1.heap.size, q, none⟩ = some (.int .i64 ((fnRow n (fun i => if i < q then passAt vs p n i else ordTot vs p n (perms n).length i)).getD q 0)) := G33_.at_ q (by rw [fnRow_length]; omega)
          have c40_i : (q : Int) < (n : Int) := by omega
          have c40_j : (0 : Int) ≤ (q : Int) := by omega
          have v41_g := ordDiv_rg HVB.out HPP.out (q := q) (k := q) (by omega) (by omega)
          obtain ⟨v41_, hv41_⟩ : ∃ v, v = (fnRow n (fun i => if i < q then passAt vs p n i else ordTot vs p n (perms n).length i)).getD q 0 := ⟨_, rfl⟩
          rw [← hv41_] at c40_ v41_g
          have Hv41_ := Lib.hid hv41_
          clear hv41_
          obtain ⟨v41_g1, v41_g2⟩ := v41_g
          have hq42_a := Int.ediv_nonneg (show 0 ≤ v41_ by omega) (show 0 ≤ ((perms n).length : Int) by omega)
          have hq42_b := Int.ediv_le_self ((perms n).length : Int) (show 0 ≤ v41_ by omega)
          have hq42_ : IntKind.i64.wrap (v41_.tdiv ((perms n).length : Int)) = v41_ / ((perms n).length : Int) := by rw [Int.tdiv_eq_ediv_of_nonneg (by omega)]; exact IntWalk.i64_in _ (by omega)
          have hq42_y : (((perms n).length : Int) == 0) = false := by simp only [beq_eq_false_iff_ne]; omega
          have hq42_z : (((perms n).length : Int) = 0) = False := eq_false (by omega)
          have c44_ := G33_.at_ q (by rw [fnRow_length]; omega)
          have c44_f := G33_.soft q (by rw [fnRow_length]; omega)
          have c44_i : (q : Int) < (n : Int) := by omega
          have c44_j : (0 : Int) ≤ (q : Int) := by omega
          clear c44_
          have hC43_ := Chg.setCell (lo := w1.heap.size) (hi := w1.heap.size + 1) w32 (p := ⟨w1.heap.size, q, none⟩) ⟨Nat.le_refl _, Nat.lt_succ_self _⟩ (.int .i64 (v41_ / ((perms n).length : Int)))
          have G45_ := G33_.store q (v41_ / ((perms n).length : Int))
          have o46_ := k36_.chg hC43_ (by first | omega | (simp; omega) | simp) (by omega)
          have o47_ := k37_.chg hC43_ (by omega)
          have z48_ := hC43_.size
          try simp at z48_
          have B49_ := k34_.trans (hC43_.below (by omega) (by first | omega | (simp; omega) | simp))
          clear hC43_
          go_wp2
          go_roundw
          case rel => exact ⟨q + 1, by go_num, by omega, (by rw [← ordDiv_step HVB.out (v := v41_) (by omega) Hv41_.out]; exact G45_), B49_, (by first | omega | (simp; omega) | simp), o46_, o47_⟩
          case measure => simp [intOf] <;> omega
        · have hqn : n ≤ q := by omega
          have hfin : passRow (n : Int) vs p = fnRow n (fun i => if i < q then passAt vs p n i else ordTot vs p n (perms n).length i) := by rw [passRow_yes HVB.out HPP.out, ordDiv_all vs p hqn]
          have HFIN := Lib.hid hfin
          clear hfin
          go_wp2
          go_ret
          rw [HFIN.out]
          (refine retInts_grow G33_ (by omega) ?_ k34_; rw [fnRow_length])

set_option maxRecDepth 10000 in
set_option maxHeartbeats 1000000 in
theorem specPassOrders_no (N : Int) (A : Option Addr) (c : Nat) (vs : List Int) (p : Int) (w : World) (lo hi : Nat) (h : Ints w lo hi A vs) (hh : hi ≤ w.heap.size) (hl : vs.length ≤ 1152921504606846976) (hb : visB N vs = false) :
    Calls Try.prog 26 #[.int .i64 N, .slice A vs.length c, .int .i64 p] w (RetInts w (passRow N vs p)) := by
  have HVB := Lib.hid hb
  clear hb
  go_enter Try.func26, Try.ntmps26
  go_wp2_with fail
  refine (specVisitsOk_any N A c vs _ _ _ h (by first | omega | (simp; omega) | simp) (by omega)).mono ?_
  rintro e w1 ⟨he, hb1_⟩
  rw [HVB.out] at he
  subst he
  have o2_ := h.below hb1_ (by first | omega | (simp; omega) | simp)
  have z3_ := hb1_.size
  have B4_ := (Below.refl w.heap.size w).trans (hb1_.mono (by first | omega | (simp; omega) | simp))
  clear hb1_
  have o5_ := o2_.alloc (by first | omega | (simp; omega) | simp) (.cells #[] 3)
  have B6_ := B4_.alloc (by first | omega | (simp; omega) | simp) (.cells #[] 3)
  have G7_ : Grow (w1.alloc (.cells #[] 3)) (w1.heap.size) 0 ([] : List Int) := by have e := grow_lit w1 ([] : List Int) (by simp); (try simp only [hsz] at e); exact e
  have l8_ := G7_.lt
  have HL9_ : Hid (([] : List Int).length = 0) := rfl
  have hfin : passRow N vs p = ([] : List Int) := by rw [passRow, HVB.out]; simp
  have HFIN := Lib.hid hfin
  clear hfin
  go_wp2
  go_ret
  rw [HFIN.out]
  (refine retInts_grow G7_ (by omega) ?_ B6_; rfl)

set_option maxRecDepth 10000 in
set_option maxHeartbeats 1000000 in
theorem specPassOrders_far (N : Int) (A : Option Addr) (c : Nat) (vs : List Int) (p : Int) (w : World) (lo hi : Nat) (h : Ints w lo hi A vs) (hh : hi ≤ w.heap.size) (hl : vs.length ≤ 1152921504606846976) (hb : visB N vs = true) (hp : ¬ (0 ≤ p ∧ p ≤ 12)) :
    Calls Try.prog 26 #[.int .i64 N, .slice A vs.length c, .int .i64 p] w (RetInts w (passRow N vs p)) := by
  have HVB := Lib.hid hb
  have HPP := Lib.hid hp
  clear hb hp
  go_enter Try.func26, Try.ntmps26
  go_wp2_with fail
  refine (specVisitsOk_any N A c vs _ _ _ h (by first | omega | (simp; omega) | simp) (by omega)).mono ?_
  rintro e w1 ⟨he, hb1_⟩
  rw [HVB.out] at he
  subst he
  have o2_ := h.below hb1_ (by first | omega | (simp; omega) | simp)
  have z3_ := hb1_.size
  have B4_ := (Below.refl w.heap.size w).trans (hb1_.mono (by first | omega | (simp; omega) | simp))
  clear hb1_
  go_wp2_with fail
  refine (l1In_no _ _ _ _ HPP.out).mono ?_
  rintro e w' ⟨rfl, rfl⟩
  have o5_ := o2_.alloc (by first | omega | (simp; omega) | simp) (.cells #[] 3)
  have B6_ := B4_.alloc (by first | omega | (simp; omega) | simp) (.cells #[] 3)
  have G7_ : Grow (w1.alloc (.cells #[] 3)) (w1.heap.size) 0 ([] : List Int) := by have e := grow_lit w1 ([] : List Int) (by simp); (try simp only [hsz] at e); exact e
  have l8_ := G7_.lt
  have HL9_ : Hid (([] : List Int).length = 0) := rfl
  have hfin : passRow N vs p = ([] : List Int) := by rw [passRow, if_neg (fun q => HPP.out q.2)]
  have HFIN := Lib.hid hfin
  clear hfin
  go_wp2
  go_ret
  rw [HFIN.out]
  (refine retInts_grow G7_ (by omega) ?_ B6_; rfl)

theorem specPassOrders_any (N : Int) (A : Option Addr) (c : Nat) (vs : List Int) (p : Int) (w : World) (lo hi : Nat) (h : Ints w lo hi A vs) (hh : hi ≤ w.heap.size) (hl : vs.length ≤ 1152921504606846976) :
    Calls Try.prog 26 #[.int .i64 N, .slice A vs.length c, .int .i64 p] w (RetInts w (passRow N vs p)) := by
  by_cases hb : visB N vs = true
  · by_cases hp : 0 ≤ p ∧ p ≤ 12
    · obtain ⟨n, rfl⟩ := vis_nat hb
      exact specPassOrders_yes n A c vs p w lo hi h hh hl hb hp
    · exact specPassOrders_far N A c vs p w lo hi h hh hl hb hp
  · exact specPassOrders_no N A c vs p w lo hi h hh hl (by simpa using hb)


end Go.Proofs.Ytdbohnaohinieaa
