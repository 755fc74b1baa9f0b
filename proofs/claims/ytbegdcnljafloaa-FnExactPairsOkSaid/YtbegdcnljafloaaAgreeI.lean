/-
  The program's function PairsOk reports whether awards agree for each two people; it makes new memory only. No condition but lengths that fit.
-/
import Derived.Test.YtbegdcnljafloaaPairLaw
import Derived.Test.YtbegdcnljafloaaAgree
import Derived.Test.YtbegdcnljafloaaGC
import Derived.Test.YtbegdcnljafloaaFx
namespace Go.Proofs.Ytbegdcnljafloaa
open Go.RowKit

/-- What the loops of PairsOk keep of the world. -/
def AgSt (w wr : World) (lc hc : Nat) (C : Option Addr) (zs : List Int) (lo' hi' : Nat) (D : Option Addr) (ys : List Int) : Prop :=
  Below w.heap.size w wr ∧ Ints wr lc hc C zs ∧ Ints wr lo' hi' D ys ∧ hc ≤ wr.heap.size ∧ hi' ≤ wr.heap.size

set_option maxRecDepth 10000 in
set_option maxHeartbeats 400000 in
theorem implPairsOk_no (E : Int) (A : Option Addr) (c : Nat) (xs : List Int) (D : Option Addr) (d : Nat) (ys : List Int) (w : World) (lo hi : Nat) (h : Ints w lo hi A xs) (hh : hi ≤ w.heap.size) (hl : xs.length ≤ 1152921504606846976)
    (lo' hi' : Nat) (h' : Ints w lo' hi' D ys) (hh' : hi' ≤ w.heap.size) (hl' : ys.length ≤ 1152921504606846976) (hok : awardsB E xs ys = false) :
    Calls Try.prog 16 #[.agg #[.int .i64 E, .slice A xs.length c], .slice D ys.length d] w fun e w' => e = .returned (.bool (agreeB E xs ys)) ∧ Below w.heap.size w w' := by
  have HO := Lib.hid hok
  clear hok
  have k0 := h.alloc hh (.cells #[.int .i64 E, .slice A xs.length c] 31)
  have q0 := h'.alloc hh' (.cells #[.int .i64 E, .slice A xs.length c] 31)
  have B0 := (Below.refl w.heap.size w).alloc (Nat.le_refl _) (.cells #[.int .i64 E, .slice A xs.length c] 31)
  go_enter Try.func16, Try.ntmps16
  go_wp2_with fail
  refine (implAwardsOk_any E A c xs D d ys _ _ _ k0 (by rw [hsz]; omega) hl _ _ q0 (by rw [hsz]; omega) hl').mono ?_
  rintro e w1 ⟨he1, hb1⟩
  rw [HO.out] at he1
  subst he1
  rw [hsz] at hb1
  have B1 := B0.trans (hb1.mono (by omega))
  clear hb1
  go_wp2
  go_ret
  exact ⟨ret_bool (agree_no HO.out).symm, B1⟩

set_option maxRecDepth 10000 in
set_option maxHeartbeats 4000000 in
theorem implPairsOk_yes (E : Int) (A : Option Addr) (c : Nat) (xs : List Int) (D : Option Addr) (d : Nat) (ys : List Int) (w : World) (lo hi : Nat) (h : Ints w lo hi A xs) (hh : hi ≤ w.heap.size) (hl : xs.length ≤ 1152921504606846976)
    (lo' hi' : Nat) (h' : Ints w lo' hi' D ys) (hh' : hi' ≤ w.heap.size) (hl' : ys.length ≤ 1152921504606846976) (hok : awardsB E xs ys = true) :
    Calls Try.prog 16 #[.agg #[.int .i64 E, .slice A xs.length c], .slice D ys.length d] w fun e w' => e = .returned (.bool (agreeB E xs ys)) ∧ Below w.heap.size w w' := by
  have hA := (awardsB_iff E xs ys).1 hok
  have hbd := caseOk_bd hA.1
  have HN := Lib.hid hA.2.1
  have hy4 : ys.length ≤ 4 := by have e := hA.2.1; omega
  have HO := Lib.hid hok
  have HR := Lib.hid (aw_range ((awardsB_iff E xs ys).1 hok).1 ((awardsB_iff E xs ys).1 hok).2.1 ((awardsB_iff E xs ys).1 hok).2.2.1)
  have HV := Lib.hid (fun k hk => case_at ((awardsB_iff E xs ys).1 hok).1 k hk)
  have HW := Lib.hid ((awardsB_iff E xs ys).1 hok).2.2.1
  have HPl := Lib.hid (inP_length xs)
  have HSm := Lib.hid (small_of (show xs.length ≤ 4 by omega) ((caseOk_iff E xs).1 hA.1).2.2.1)
  clear hok hA
  have k0 := h.alloc hh (.cells #[.int .i64 E, .slice A xs.length c] 31)
  have q0 := h'.alloc hh' (.cells #[.int .i64 E, .slice A xs.length c] 31)
  have a0 := new2 w (.int .i64 E) (.slice A xs.length c) 31
  have B0 := (Below.refl w.heap.size w).alloc (Nat.le_refl _) (.cells #[.int .i64 E, .slice A xs.length c] 31)
  go_enter Try.func16, Try.ntmps16
  go_wp2_with fail
  refine (implAwardsOk_any E A c xs D d ys _ _ _ k0 (by rw [hsz]; omega) hl _ _ q0 (by rw [hsz]; omega) hl').mono ?_
  rintro e w1 ⟨he1, hb1⟩
  rw [HO.out] at he1
  subst he1
  rw [hsz] at hb1
  obtain ⟨a1, a1'⟩ := keep2 hb1 a0 (by omega)
  have k1 := k0.below hb1 (by omega)
  have q1 := q0.below hb1 (by omega)
  have z1 := hb1.size
  rw [hsz] at z1
  have B1 := B0.trans (hb1.mono (by omega))
  clear hb1 a0 k0 q0 h h' B0
  go_wp2_with fail
  refine (inParts_any A c xs _ _ _ k1 (by omega) HSm.out).mono ?_
  rintro e w2 ⟨C, cC, rfl, ho2, hb2⟩
  have q2 := q1.below hb2 (by omega)
  have z2 := hb2.size
  have B2 := B1.trans (hb2.mono (by omega))
  clear hb2 k1 q1 a1 a1'
  obtain ⟨b, o, rfl, _, hbC, _⟩ := ho2.ints (by rw [HPl.out]; omega)
  obtain ⟨b', o', rfl, _, hbD, _⟩ := q2 (by have := HN.out; omega)
  obtain ⟨lc, hlc⟩ : ∃ x, x = w1.heap.size := ⟨_, rfl⟩
  obtain ⟨hc, hhc⟩ : ∃ x, x = w2.heap.size := ⟨_, rfl⟩
  have hzw : hi' ≤ w2.heap.size := by omega
  have hst0 : AgSt w w2 lc hc (some ⟨b, o, none⟩) (inP xs) lo' hi' (some ⟨b', o', none⟩) ys := ⟨B2, by rw [hlc, hhc]; exact ho2.ints, q2, by omega, by omega⟩
  have hbh : b < hc := by omega
  clear hlc hhc ho2 q2 B1 B2 hbC z1 z2 hzw
  go_wp2
  go_loopw [20] (fun i wr => ∃ k : Nat, k ≤ ys.length ∧ i = .int .i64 k ∧ AgreeTo xs ys k ∧ AgSt w wr lc hc (some ⟨b, o, none⟩) (inP xs) lo' hi' (some ⟨b', o', none⟩) ys) (fun i _ => ys.length - (intOf i).toNat)
  case atStart => exact ⟨0, Nat.zero_le _, rfl, AgreeTo.zero xs ys, hst0⟩
  case round =>
    obtain ⟨k, hk, rfl, hkt, hst⟩ := hrel
    have HK := Lib.hid hkt
    have HST := Lib.hid hst
    clear hkt hst hst0
    by_cases hlt : k < ys.length
    · have hnn := HN.out
      have hk10 : (0 : Int) ≤ (k : Int) := by omega
      have hk11 : (k : Int) < ((inP xs).length : Int) := by rw [HPl.out]; omega
      have hk12 : (k : Int) < (ys.length : Int) := by omega
      have gx1 : 0 ≤ 48 * xs.getD k 0 ∧ 48 * xs.getD k 0 ≤ 576 := by rw [getD_of_lt xs k (by omega)]; have e := HV.out k (by omega); omega
      have gy1 : 0 ≤ ys.getD k 0 ∧ ys.getD k 0 ≤ 576 := by rw [getD_of_lt ys k (by omega)]; exact HR.out _ (List.getElem_mem _)
      have gz1 : ys.getD k 0 ≤ 48 * xs.getD k 0 := by rw [getD_of_lt ys k (by omega), getD_of_lt xs k (by omega)]; exact (HW.out k (by omega) (by omega)).2
      clear hnn
      go_wp2
      go_loopw [24] (fun i wr => ∃ m : Nat, m ≤ k ∧ i = .int .i64 m ∧ AgreeRow xs ys k m ∧ AgSt w wr lc hc (some ⟨b, o, none⟩) (inP xs) lo' hi' (some ⟨b', o', none⟩) ys) (fun i _ => k - (intOf i).toNat)
      case atStart => exact ⟨0, Nat.zero_le _, rfl, AgreeRow.zero xs ys k, HST.out⟩
      case round =>
        obtain ⟨m, hm, rfl, hkr, hst⟩ := hrel
        have HRR := Lib.hid hkr
        have HSU := Lib.hid hst
        clear hkr hst
        obtain ⟨wo, rfl⟩ : ∃ x, x = wr := ⟨_, rfl⟩
        by_cases hlm : m < k
        · have hnn := HN.out
          obtain ⟨BB, kc, kd, zc, zd⟩ := HSU.out
          have hk20 : (0 : Int) ≤ (m : Int) := by omega
          have hk21 : (m : Int) < ((inP xs).length : Int) := by rw [HPl.out]; omega
          have hk22 : (m : Int) < (ys.length : Int) := by omega
          have gx2 : 0 ≤ 48 * xs.getD m 0 ∧ 48 * xs.getD m 0 ≤ 576 := by rw [getD_of_lt xs m (by omega)]; have e := HV.out m (by omega); omega
          have gy2 : 0 ≤ ys.getD m 0 ∧ ys.getD m 0 ≤ 576 := by rw [getD_of_lt ys m (by omega)]; exact HR.out _ (List.getElem_mem _)
          have gz2 : ys.getD m 0 ≤ 48 * xs.getD m 0 := by rw [getD_of_lt ys m (by omega), getD_of_lt xs m (by omega)]; exact (HW.out m (by omega) (by omega)).2
          have x1 : wo.cell? ⟨b, o + k, none⟩ = some (.int .i64 (48 * xs.getD k 0)) := by rw [kc.at2 k (by rw [HPl.out]; omega), getD_of_lt (inP xs) k (by rw [HPl.out]; omega), inP_at xs k (by omega), getD_of_lt xs k (by omega)]
          have y1 : wo.cell? ⟨b', o' + k, none⟩ = some (.int .i64 (ys.getD k 0)) := kd.at2 k (by omega)
          have x2 : wo.cell? ⟨b, o + m, none⟩ = some (.int .i64 (48 * xs.getD m 0)) := by rw [kc.at2 m (by rw [HPl.out]; omega), getD_of_lt (inP xs) m (by rw [HPl.out]; omega), inP_at xs m (by omega), getD_of_lt xs m (by omega)]
          have y2 : wo.cell? ⟨b', o' + m, none⟩ = some (.int .i64 (ys.getD m 0)) := kd.at2 m (by omega)
          obtain ⟨u1, hu1⟩ : ∃ u, u = 48 * xs.getD k 0 := ⟨_, rfl⟩
          obtain ⟨v1, hv1⟩ : ∃ u, u = ys.getD k 0 := ⟨_, rfl⟩
          rw [← hu1] at x1 gx1 gz1
          rw [← hv1] at y1 gy1 gz1
          have HU1 := Lib.hid hu1
          have HV1 := Lib.hid hv1
          clear hu1 hv1
          obtain ⟨u2, hu2⟩ : ∃ u, u = 48 * xs.getD m 0 := ⟨_, rfl⟩
          obtain ⟨v2, hv2⟩ : ∃ u, u = ys.getD m 0 := ⟨_, rfl⟩
          rw [← hu2] at x2 gx2 gz2
          rw [← hv2] at y2 gy2 gz2
          have HU2 := Lib.hid hu2
          have HV2 := Lib.hid hv2
          clear hu2 hv2
          obtain ⟨pA, hpA⟩ : ∃ p, pairA u2 u1 (v2 + v1) = p := ⟨_, rfl⟩
          obtain ⟨pB, hpB⟩ : ∃ p, pairB u2 u1 (v2 + v1) = p := ⟨_, rfl⟩
          have HT : Hid (AgreeAt xs ys k m ↔ (pA = 2 * v2 ∧ pB = 2 * v1)) := by
            show _ ↔ _
            have e : AgreeAt xs ys m k ↔ (pA = 2 * v2 ∧ pB = 2 * v1) := by rw [AgreeAt, ← HU1.out, ← HV1.out, ← HU2.out, ← HV2.out, hpA, hpB]
            exact ⟨fun h => e.1 h.symm, fun h => (e.2 h).symm⟩
          have HI : Hid (pairIn u2 u1 (v2 + v1) = true) := (pairIn_iff _ _ _).2 ⟨gx2, gx1, by omega, by omega⟩
          have HA := Lib.hid hpA
          have HBB := Lib.hid hpB
          clear hpA hpB hnn
          have hwr : IntKind.i64.wrap (v2 + v1) = v2 + v1 := IntWalk.i64_in _ (by omega)
          have hbl : b < wo.heap.size := by omega
          have hbl' : b' < wo.heap.size := by omega
          have hzz := BB.size
          clear HU1 HU2 HV1 HV2
          by_cases c1 : pA = 2 * v2
          · by_cases c2 : pB = 2 * v1
            · have HS : Hid (AgreeRow xs ys k (m + 1)) := HRR.out.succ (HT.out.2 ⟨c1, c2⟩)
              have d1 : (pA != 2 * v2) = false := by rw [c1]; simp
              have d2 : (pB != 2 * v1) = false := by rw [c2]; simp
              clear c1 c2
              go_wp2_with fail
              have hWW : w.heap.size ≤ wo.heap.size := by first | omega | (simp; omega) | simp
              have g_kc : hc ≤ wo.heap.size := by first | omega | (simp; omega) | simp
              have g_kd : hi' ≤ wo.heap.size := by first | omega | (simp; omega) | simp
              have gc_0 : b < wo.heap.size := by first | omega | (simp; omega) | simp
              have gc_1 : b < wo.heap.size := by first | omega | (simp; omega) | simp
              have gc_2 : b' < wo.heap.size := by first | omega | (simp; omega) | simp
              have gc_3 : b' < wo.heap.size := by first | omega | (simp; omega) | simp
              refine wp_region_held_drew (S := (fun w' : World => Ints w' (lc) (hc) (some ⟨b, o, none⟩) (inP xs) ∧ Ints w' (lo') (hi') (some ⟨b', o', none⟩) (ys) ∧ w'.cell? ⟨b, o + m, none⟩ = some (.int .i64 u2) ∧ w'.cell? ⟨b, o + k, none⟩ = some (.int .i64 u1) ∧ w'.cell? ⟨b', o' + m, none⟩ = some (.int .i64 v2) ∧ w'.cell? ⟨b', o' + k, none⟩ = some (.int .i64 v1) ∧ wo.heap.size ≤ w'.heap.size ∧ Below w.heap.size w w')) (by kernel_rfl) ⟨kc.ints, kd.ints, x2, x1, y2, y1, Nat.le_refl _, BB.drew⟩ (fun hHeld => ?_)
              refine wpAnyH_take (i := 0) (oi := ?oi1) (v := ?vv1) ?hi1 ?hs1 ?hf1 ?ha1 ?hq1 ?hy1 hHeld ?hr1
              case hi1 => (simp only [List.getElem?_toArray, List.getElem?_cons_zero]; exact rfl)
              case hs1 => kernel_rfl
              case hf1 => kernel_rfl
              case ha1 => kernel_rfl
              case hq1 => exact fun _ _ _ h => h
              case hy1 =>
                refine Or.inl ⟨by rfl, ?_⟩
                intro w' hSw
                try dsimp only at hSw
                go_simp
                first | done | with_reducible rfl
              simp only [Act.put, List.setIfInBounds_toArray, List.set_cons_succ, List.set_cons_zero]
              refine wpAnyH_take (i := 1) (oi := ?oi2) (v := ?vv2) ?hi2 ?hs2 ?hf2 ?ha2 ?hq2 ?hy2 hHeld ?hr2
              case hi2 => (simp only [List.getElem?_toArray, List.getElem?_cons_succ, List.getElem?_cons_zero]; exact rfl)
              case hs2 => kernel_rfl
              case hf2 => kernel_rfl
              case ha2 => kernel_rfl
              case hq2 => exact fun _ _ _ h => h
              case hy2 =>
                refine Or.inl ⟨by rfl, ?_⟩
                intro w' hSw
                try dsimp only at hSw
                go_simp
                first | done | with_reducible rfl
              simp only [Act.put, List.setIfInBounds_toArray, List.set_cons_succ, List.set_cons_zero]
              refine wpAnyH_take (i := 2) (oi := ?oi3) (v := ?vv3) ?hi3 ?hs3 ?hf3 ?ha3 ?hq3 ?hy3 hHeld ?hr3
              case hi3 => (simp only [List.getElem?_toArray, List.getElem?_cons_succ, List.getElem?_cons_zero]; exact rfl)
              case hs3 => kernel_rfl
              case hf3 => kernel_rfl
              case ha3 => kernel_rfl
              case hq3 => exact fun _ _ _ h => h
              case hy3 =>
                refine Or.inl ⟨by rfl, ?_⟩
                intro w' hSw
                try dsimp only at hSw
                go_simp
                first | done | with_reducible rfl
              simp only [Act.put, List.setIfInBounds_toArray, List.set_cons_succ, List.set_cons_zero]
              refine wpAnyH_take (i := 3) (oi := ?oi4) (v := ?vv4) ?hi4 ?hs4 ?hf4 ?ha4 ?hq4 ?hy4 hHeld ?hr4
              case hi4 => (simp only [List.getElem?_toArray, List.getElem?_cons_succ, List.getElem?_cons_zero]; exact rfl)
              case hs4 => kernel_rfl
              case hf4 => kernel_rfl
              case ha4 => kernel_rfl
              case hq4 => exact fun _ _ _ h => h
              case hy4 =>
                refine Or.inl ⟨by rfl, ?_⟩
                intro w' hSw
                try dsimp only at hSw
                go_simp
                first | done | with_reducible rfl
              simp only [Act.put, List.setIfInBounds_toArray, List.set_cons_succ, List.set_cons_zero]
              refine wpAnyH_take (i := 4) (oi := ?oi5) (v := ?vv5) ?hi5 ?hs5 ?hf5 ?ha5 ?hq5 ?hy5 hHeld ?hr5
              case hi5 => (simp only [List.getElem?_toArray, List.getElem?_cons_succ, List.getElem?_cons_zero]; exact rfl)
              case hs5 => kernel_rfl
              case hf5 => kernel_rfl
              case ha5 => kernel_rfl
              case hq5 => exact fun _ _ _ h => h
              case hy5 =>
                refine Or.inl ⟨by rfl, ?_⟩
                intro w' hSw
                try dsimp only at hSw
                go_simp
                first | done | with_reducible rfl
              simp only [Act.put, List.setIfInBounds_toArray, List.set_cons_succ, List.set_cons_zero]
              refine wpAnyH_take (i := 5) (oi := ?oi6) (v := ?vv6) ?hi6 ?hs6 ?hf6 ?ha6 ?hq6 ?hy6 hHeld ?hr6
              case hi6 => (simp only [List.getElem?_toArray, List.getElem?_cons_succ, List.getElem?_cons_zero]; exact rfl)
              case hs6 => kernel_rfl
              case hf6 => kernel_rfl
              case ha6 => kernel_rfl
              case hq6 => exact fun _ _ _ h => h
              case hy6 =>
                refine Or.inl ⟨by rfl, ?_⟩
                intro w' hSw
                try dsimp only at hSw
                go_simp
                first | done | with_reducible rfl
              simp only [Act.put, List.setIfInBounds_toArray, List.set_cons_succ, List.set_cons_zero]
              refine wpAnyH_take (i := 6) (oi := ?oi7) (v := ?vv7) ?hi7 ?hs7 ?hf7 ?ha7 ?hq7 ?hy7 hHeld ?hr7
              case hi7 => (simp only [List.getElem?_toArray, List.getElem?_cons_succ, List.getElem?_cons_zero]; exact rfl)
              case hs7 => kernel_rfl
              case hf7 => kernel_rfl
              case ha7 => kernel_rfl
              case hq7 => exact fun _ _ _ h => h
              case hy7 =>
                refine Or.inl ⟨by rfl, ?_⟩
                intro w' hSw
                try dsimp only at hSw
                go_simp
                first | done | with_reducible rfl
              simp only [Act.put, List.setIfInBounds_toArray, List.set_cons_succ, List.set_cons_zero]
              refine wpAnyH_take (i := 7) (oi := ?oi8) (v := ?vv8) ?hi8 ?hs8 ?hf8 ?ha8 ?hq8 ?hy8 hHeld ?hr8
              case hi8 => (simp only [List.getElem?_toArray, List.getElem?_cons_succ, List.getElem?_cons_zero]; exact rfl)
              case hs8 => kernel_rfl
              case hf8 => kernel_rfl
              case ha8 => kernel_rfl
              case hq8 => exact fun _ _ _ h => h
              case hy8 =>
                refine Or.inl ⟨by rfl, ?_⟩
                intro w' hSw
                try dsimp only at hSw
                go_simp
                first | done | with_reducible rfl
              simp only [Act.put, List.setIfInBounds_toArray, List.set_cons_succ, List.set_cons_zero]
              refine wpAnyH_take (i := 8) (oi := ?oi9) (v := ?vv9) ?hi9 ?hs9 ?hf9 ?ha9 ?hq9 ?hy9 hHeld ?hr9
              case hi9 => (simp only [List.getElem?_toArray, List.getElem?_cons_succ, List.getElem?_cons_zero]; exact rfl)
              case hs9 => kernel_rfl
              case hf9 => kernel_rfl
              case ha9 => kernel_rfl
              case hq9 => exact fun _ _ _ h => h
              case hy9 =>
                refine Or.inl ⟨by rfl, ?_⟩
                intro w' hSw
                try dsimp only at hSw
                go_simp
                first | done | with_reducible rfl
              simp only [Act.put, List.setIfInBounds_toArray, List.set_cons_succ, List.set_cons_zero]
              refine wpAnyH_take (i := 9) (oi := ?oi10) (v := ?vv10) ?hi10 ?hs10 ?hf10 ?ha10 ?hq10 ?hy10 hHeld ?hr10
              case hi10 => (simp only [List.getElem?_toArray, List.getElem?_cons_succ, List.getElem?_cons_zero]; exact rfl)
              case hs10 => kernel_rfl
              case hf10 => kernel_rfl
              case ha10 => kernel_rfl
              case hq10 => exact fun _ _ _ h => h
              case hy10 =>
                refine Or.inl ⟨by rfl, ?_⟩
                intro w' hSw
                try dsimp only at hSw
                go_simp
                first | done | with_reducible rfl
              simp only [Act.put, List.setIfInBounds_toArray, List.set_cons_succ, List.set_cons_zero]
              refine wpAnyH_take (i := 10) (oi := ?oi11) (v := ?vv11) ?hi11 ?hs11 ?hf11 ?ha11 ?hq11 ?hy11 hHeld ?hr11
              case hi11 => (simp only [List.getElem?_toArray, List.getElem?_cons_succ, List.getElem?_cons_zero]; exact rfl)
              case hs11 => kernel_rfl
              case hf11 => kernel_rfl
              case ha11 => kernel_rfl
              case hq11 => exact fun _ _ _ h => h
              case hy11 =>
                refine Or.inl ⟨by rfl, ?_⟩
                intro w' hSw
                try dsimp only at hSw
                go_simp
                first | done | with_reducible rfl
              simp only [Act.put, List.setIfInBounds_toArray, List.set_cons_succ, List.set_cons_zero]
              refine wpAnyH_take (i := 11) (oi := ?oi12) (v := ?vv12) ?hi12 ?hs12 ?hf12 ?ha12 ?hq12 ?hy12 hHeld ?hr12
              case hi12 => (simp only [List.getElem?_toArray, List.getElem?_cons_succ, List.getElem?_cons_zero]; exact rfl)
              case hs12 => kernel_rfl
              case hf12 => kernel_rfl
              case ha12 => kernel_rfl
              case hq12 => exact fun _ _ _ h => h
              case hy12 =>
                refine Or.inl ⟨by rfl, ?_⟩
                intro w' hSw
                try dsimp only at hSw
                go_simp
                first | done | with_reducible rfl
              simp only [Act.put, List.setIfInBounds_toArray, List.set_cons_succ, List.set_cons_zero]
              refine wpAnyH_take (i := 12) (oi := ?oi13) (v := ?vv13) ?hi13 ?hs13 ?hf13 ?ha13 ?hq13 ?hy13 hHeld ?hr13
              case hi13 => (simp only [List.getElem?_toArray, List.getElem?_cons_succ, List.getElem?_cons_zero]; exact rfl)
              case hs13 => kernel_rfl
              case hf13 => kernel_rfl
              case ha13 => kernel_rfl
              case hq13 => exact fun _ _ _ h => h
              case hy13 =>
                refine Or.inl ⟨by rfl, ?_⟩
                intro w' hSw
                try dsimp only at hSw
                go_simp
                first | done | with_reducible rfl
              simp only [Act.put, List.setIfInBounds_toArray, List.set_cons_succ, List.set_cons_zero]
              refine wpAnyH_take (i := 13) (oi := ?oi14) (v := ?vv14) ?hi14 ?hs14 ?hf14 ?ha14 ?hq14 ?hy14 hHeld ?hr14
              case hi14 => (simp only [List.getElem?_toArray, List.getElem?_cons_succ, List.getElem?_cons_zero]; exact rfl)
              case hs14 => kernel_rfl
              case hf14 => kernel_rfl
              case ha14 => kernel_rfl
              case hq14 => exact fun _ _ _ h => h
              case hy14 =>
                refine Or.inl ⟨by rfl, ?_⟩
                intro w' hSw
                try dsimp only at hSw
                go_simp
                first | done | with_reducible rfl
              simp only [Act.put, List.setIfInBounds_toArray, List.set_cons_succ, List.set_cons_zero]
              refine wpAnyH_take (i := 14) (oi := ?oi15) (v := ?vv15) ?hi15 ?hs15 ?hf15 ?ha15 ?hq15 ?hy15 hHeld ?hr15
              case hi15 => (simp only [List.getElem?_toArray, List.getElem?_cons_succ, List.getElem?_cons_zero]; exact rfl)
              case hs15 => kernel_rfl
              case hf15 => kernel_rfl
              case ha15 => kernel_rfl
              case hq15 => exact fun _ _ _ h => h
              case hy15 =>
                refine Or.inl ⟨by rfl, ?_⟩
                intro w' hSw
                try dsimp only at hSw
                go_simp
                first | done | with_reducible rfl
              simp only [Act.put, List.setIfInBounds_toArray, List.set_cons_succ, List.set_cons_zero]
              refine wpAnyH_take (i := 15) (oi := ?oi16) (v := ?vv16) ?hi16 ?hs16 ?hf16 ?ha16 ?hq16 ?hy16 hHeld ?hr16
              case hi16 => (simp only [List.getElem?_toArray, List.getElem?_cons_succ, List.getElem?_cons_zero]; exact rfl)
              case hs16 => kernel_rfl
              case hf16 => kernel_rfl
              case ha16 => kernel_rfl
              case hq16 => exact fun _ _ _ h => h
              case hy16 =>
                refine Or.inl ⟨by rfl, ?_⟩
                intro w' hSw
                try dsimp only at hSw
                go_simp
                first | done | with_reducible rfl
              simp only [Act.put, List.setIfInBounds_toArray, List.set_cons_succ, List.set_cons_zero]
              refine wpAnyH_take (i := 16) (oi := ?oi17) (v := ?vv17) ?hi17 ?hs17 ?hf17 ?ha17 ?hq17 ?hy17 hHeld ?hr17
              case hi17 => (simp only [List.getElem?_toArray, List.getElem?_cons_succ, List.getElem?_cons_zero]; exact rfl)
              case hs17 => kernel_rfl
              case hf17 => kernel_rfl
              case ha17 => kernel_rfl
              case hq17 => exact fun _ _ _ h => h
              case hy17 =>
                refine Or.inl ⟨by rfl, ?_⟩
                intro w' hSw
                try dsimp only at hSw
                go_simp
                first | done | with_reducible rfl
              simp only [Act.put, List.setIfInBounds_toArray, List.set_cons_succ, List.set_cons_zero]
              refine wpAnyH_ready (rs := [17]) (by kernel_rfl) (by simp) ?_
              refine AllReadyH.cons rfl (fun K hK => ?_) AllReadyH.nil
              go_simp
              go_at_call 12
              obtain ⟨kc, kd, q0, q1, q2, q3, zz, BB⟩ := hHeld
              (with_reducible refine (implPair_yes u2 u1 (v2 + v1) pA pB _ HI.out HA.out HBB.out).mono ?_)
              rintro e w1_ ⟨rfl, hb9⟩
              refine hK.out _ _ ⟨kc.below hb9 (by omega), kd.below hb9 (by omega), (hb9.cell (by show b < _; omega)).trans q0, (hb9.cell (by show b < _; omega)).trans q1, (hb9.cell (by show b' < _; omega)).trans q2, (hb9.cell (by show b' < _; omega)).trans q3, Nat.le_trans zz hb9.size, BB.trans (hb9.mono (by omega))⟩ (fun hHeld => ?_)
              clear hb9 BB zz q3 q2 q1 q0 kd kc
              clear hK K
              try simp only [Act.put, List.setIfInBounds_toArray, List.set_cons_zero, List.set_cons_succ]
              refine wpAnyH_take (i := 18) (oi := ?oi18) (v := ?vv18) ?hi18 ?hs18 ?hf18 ?ha18 ?hq18 ?hy18 hHeld ?hr18
              case hi18 => (simp only [List.getElem?_toArray, List.getElem?_cons_succ, List.getElem?_cons_zero]; exact rfl)
              case hs18 => kernel_rfl
              case hf18 => kernel_rfl
              case ha18 => kernel_rfl
              case hq18 => exact fun _ _ _ h => h
              case hy18 =>
                refine Or.inl ⟨by rfl, ?_⟩
                intro w' hSw
                try dsimp only at hSw
                go_simp
                first | done | with_reducible rfl
              simp only [Act.put, List.setIfInBounds_toArray, List.set_cons_succ, List.set_cons_zero]
              refine wpAnyH_take (i := 19) (oi := ?oi19) (v := ?vv19) ?hi19 ?hs19 ?hf19 ?ha19 ?hq19 ?hy19 hHeld ?hr19
              case hi19 => (simp only [List.getElem?_toArray, List.getElem?_cons_succ, List.getElem?_cons_zero]; exact rfl)
              case hs19 => kernel_rfl
              case hf19 => kernel_rfl
              case ha19 => kernel_rfl
              case hq19 => exact fun _ _ _ h => h
              case hy19 =>
                refine Or.inl ⟨by rfl, ?_⟩
                intro w' hSw
                try dsimp only at hSw
                go_simp
                first | done | with_reducible rfl
              simp only [Act.put, List.setIfInBounds_toArray, List.set_cons_succ, List.set_cons_zero]
              refine wpAnyH_take (i := 20) (oi := ?oi20) (v := ?vv20) ?hi20 ?hs20 ?hf20 ?ha20 ?hq20 ?hy20 hHeld ?hr20
              case hi20 => (simp only [List.getElem?_toArray, List.getElem?_cons_succ, List.getElem?_cons_zero]; exact rfl)
              case hs20 => kernel_rfl
              case hf20 => kernel_rfl
              case ha20 => kernel_rfl
              case hq20 => exact fun _ _ _ h => h
              case hy20 =>
                refine Or.inl ⟨by rfl, ?_⟩
                intro w' hSw
                try dsimp only at hSw
                go_simp
                first | done | with_reducible rfl
              simp only [Act.put, List.setIfInBounds_toArray, List.set_cons_succ, List.set_cons_zero]
              refine wpAnyH_take (i := 21) (oi := ?oi21) (v := ?vv21) ?hi21 ?hs21 ?hf21 ?ha21 ?hq21 ?hy21 hHeld ?hr21
              case hi21 => (simp only [List.getElem?_toArray, List.getElem?_cons_succ, List.getElem?_cons_zero]; exact rfl)
              case hs21 => kernel_rfl
              case hf21 => kernel_rfl
              case ha21 => kernel_rfl
              case hq21 => exact fun _ _ _ h => h
              case hy21 =>
                refine Or.inl ⟨by rfl, ?_⟩
                intro w' hSw
                try dsimp only at hSw
                go_simp
                first | done | with_reducible rfl
              simp only [Act.put, List.setIfInBounds_toArray, List.set_cons_succ, List.set_cons_zero]
              refine wpAnyH_take (i := 22) (oi := ?oi22) (v := ?vv22) ?hi22 ?hs22 ?hf22 ?ha22 ?hq22 ?hy22 hHeld ?hr22
              case hi22 => (simp only [List.getElem?_toArray, List.getElem?_cons_succ, List.getElem?_cons_zero]; exact rfl)
              case hs22 => kernel_rfl
              case hf22 => kernel_rfl
              case ha22 => kernel_rfl
              case hq22 => exact fun _ _ _ h => h
              case hy22 =>
                refine Or.inl ⟨by rfl, ?_⟩
                intro w' hSw
                try dsimp only at hSw
                go_simp
                first | done | with_reducible rfl
              simp only [Act.put, List.setIfInBounds_toArray, List.set_cons_succ, List.set_cons_zero]
              refine wpAnyH_take (i := 23) (oi := ?oi23) (v := ?vv23) ?hi23 ?hs23 ?hf23 ?ha23 ?hq23 ?hy23 hHeld ?hr23
              case hi23 => (simp only [List.getElem?_toArray, List.getElem?_cons_succ, List.getElem?_cons_zero]; exact rfl)
              case hs23 => kernel_rfl
              case hf23 => kernel_rfl
              case ha23 => kernel_rfl
              case hq23 => exact fun _ _ _ h => h
              case hy23 =>
                refine Or.inl ⟨by rfl, ?_⟩
                intro w' hSw
                try dsimp only at hSw
                go_simp
                first | done | with_reducible rfl
              simp only [Act.put, List.setIfInBounds_toArray, List.set_cons_succ, List.set_cons_zero]
              refine wpAnyH_take (i := 24) (oi := ?oi24) (v := ?vv24) ?hi24 ?hs24 ?hf24 ?ha24 ?hq24 ?hy24 hHeld ?hr24
              case hi24 => (simp only [List.getElem?_toArray, List.getElem?_cons_succ, List.getElem?_cons_zero]; exact rfl)
              case hs24 => kernel_rfl
              case hf24 => kernel_rfl
              case ha24 => kernel_rfl
              case hq24 => exact fun _ _ _ h => h
              case hy24 =>
                refine Or.inl ⟨by rfl, ?_⟩
                intro w' hSw
                try dsimp only at hSw
                go_simp
                first | done | with_reducible rfl
              simp only [Act.put, List.setIfInBounds_toArray, List.set_cons_succ, List.set_cons_zero]
              refine wpAnyH_done (by kernel_rfl) ?_ _
              obtain ⟨kc, kd, q0, q1, q2, q3, zz, BB⟩ := hHeld
              clear hwr
              have hst9 : Hid (AgSt w _ lc hc (some ⟨b, o, none⟩) (inP xs) lo' hi' (some ⟨b', o', none⟩) ys) := ⟨BB, kc, kd, Nat.le_trans zc zz, Nat.le_trans zd zz⟩
              go_wp2
              go_roundw
              case rel => exact ⟨m + 1, by omega, by go_num, HS.out, hst9.out⟩
              case measure => simp [intOf]; omega
            · have HS : Hid (agreeB E xs ys = false) := agree_bad (i := k) (j := m) (by omega) (by omega) (fun h => c2 (HT.out.1 h).2)
              have d1 : (pA != 2 * v2) = false := by rw [c1]; simp
              have d2 : (pB != 2 * v1) = true := by simpa using c2
              clear c1 c2
              go_wp2_with fail
              have hWW : w.heap.size ≤ wo.heap.size := by first | omega | (simp; omega) | simp
              have g_kc : hc ≤ wo.heap.size := by first | omega | (simp; omega) | simp
              have g_kd : hi' ≤ wo.heap.size := by first | omega | (simp; omega) | simp
              have gc_0 : b < wo.heap.size := by first | omega | (simp; omega) | simp
              have gc_1 : b < wo.heap.size := by first | omega | (simp; omega) | simp
              have gc_2 : b' < wo.heap.size := by first | omega | (simp; omega) | simp
              have gc_3 : b' < wo.heap.size := by first | omega | (simp; omega) | simp
              refine wp_region_held_drew (S := (fun w' : World => Ints w' (lc) (hc) (some ⟨b, o, none⟩) (inP xs) ∧ Ints w' (lo') (hi') (some ⟨b', o', none⟩) (ys) ∧ w'.cell? ⟨b, o + m, none⟩ = some (.int .i64 u2) ∧ w'.cell? ⟨b, o + k, none⟩ = some (.int .i64 u1) ∧ w'.cell? ⟨b', o' + m, none⟩ = some (.int .i64 v2) ∧ w'.cell? ⟨b', o' + k, none⟩ = some (.int .i64 v1) ∧ wo.heap.size ≤ w'.heap.size ∧ Below w.heap.size w w')) (by kernel_rfl) ⟨kc.ints, kd.ints, x2, x1, y2, y1, Nat.le_refl _, BB.drew⟩ (fun hHeld => ?_)
              refine wpAnyH_take (i := 0) (oi := ?oi25) (v := ?vv25) ?hi25 ?hs25 ?hf25 ?ha25 ?hq25 ?hy25 hHeld ?hr25
              case hi25 => (simp only [List.getElem?_toArray, List.getElem?_cons_zero]; exact rfl)
              case hs25 => kernel_rfl
              case hf25 => kernel_rfl
              case ha25 => kernel_rfl
              case hq25 => exact fun _ _ _ h => h
              case hy25 =>
                refine Or.inl ⟨by rfl, ?_⟩
                intro w' hSw
                try dsimp only at hSw
                go_simp
                first | done | with_reducible rfl
              simp only [Act.put, List.setIfInBounds_toArray, List.set_cons_succ, List.set_cons_zero]
              refine wpAnyH_take (i := 1) (oi := ?oi26) (v := ?vv26) ?hi26 ?hs26 ?hf26 ?ha26 ?hq26 ?hy26 hHeld ?hr26
              case hi26 => (simp only [List.getElem?_toArray, List.getElem?_cons_succ, List.getElem?_cons_zero]; exact rfl)
              case hs26 => kernel_rfl
              case hf26 => kernel_rfl
              case ha26 => kernel_rfl
              case hq26 => exact fun _ _ _ h => h
              case hy26 =>
                refine Or.inl ⟨by rfl, ?_⟩
                intro w' hSw
                try dsimp only at hSw
                go_simp
                first | done | with_reducible rfl
              simp only [Act.put, List.setIfInBounds_toArray, List.set_cons_succ, List.set_cons_zero]
              refine wpAnyH_take (i := 2) (oi := ?oi27) (v := ?vv27) ?hi27 ?hs27 ?hf27 ?ha27 ?hq27 ?hy27 hHeld ?hr27
              case hi27 => (simp only [List.getElem?_toArray, List.getElem?_cons_succ, List.getElem?_cons_zero]; exact rfl)
              case hs27 => kernel_rfl
              case hf27 => kernel_rfl
              case ha27 => kernel_rfl
              case hq27 => exact fun _ _ _ h => h
              case hy27 =>
                refine Or.inl ⟨by rfl, ?_⟩
                intro w' hSw
                try dsimp only at hSw
                go_simp
                first | done | with_reducible rfl
              simp only [Act.put, List.setIfInBounds_toArray, List.set_cons_succ, List.set_cons_zero]
              refine wpAnyH_take (i := 3) (oi := ?oi28) (v := ?vv28) ?hi28 ?hs28 ?hf28 ?ha28 ?hq28 ?hy28 hHeld ?hr28
              case hi28 => (simp only [List.getElem?_toArray, List.getElem?_cons_succ, List.getElem?_cons_zero]; exact rfl)
              case hs28 => kernel_rfl
              case hf28 => kernel_rfl
              case ha28 => kernel_rfl
              case hq28 => exact fun _ _ _ h => h
              case hy28 =>
                refine Or.inl ⟨by rfl, ?_⟩
                intro w' hSw
                try dsimp only at hSw
                go_simp
                first | done | with_reducible rfl
              simp only [Act.put, List.setIfInBounds_toArray, List.set_cons_succ, List.set_cons_zero]
              refine wpAnyH_take (i := 4) (oi := ?oi29) (v := ?vv29) ?hi29 ?hs29 ?hf29 ?ha29 ?hq29 ?hy29 hHeld ?hr29
              case hi29 => (simp only [List.getElem?_toArray, List.getElem?_cons_succ, List.getElem?_cons_zero]; exact rfl)
              case hs29 => kernel_rfl
              case hf29 => kernel_rfl
              case ha29 => kernel_rfl
              case hq29 => exact fun _ _ _ h => h
              case hy29 =>
                refine Or.inl ⟨by rfl, ?_⟩
                intro w' hSw
                try dsimp only at hSw
                go_simp
                first | done | with_reducible rfl
              simp only [Act.put, List.setIfInBounds_toArray, List.set_cons_succ, List.set_cons_zero]
              refine wpAnyH_take (i := 5) (oi := ?oi30) (v := ?vv30) ?hi30 ?hs30 ?hf30 ?ha30 ?hq30 ?hy30 hHeld ?hr30
              case hi30 => (simp only [List.getElem?_toArray, List.getElem?_cons_succ, List.getElem?_cons_zero]; exact rfl)
              case hs30 => kernel_rfl
              case hf30 => kernel_rfl
              case ha30 => kernel_rfl
              case hq30 => exact fun _ _ _ h => h
              case hy30 =>
                refine Or.inl ⟨by rfl, ?_⟩
                intro w' hSw
                try dsimp only at hSw
                go_simp
                first | done | with_reducible rfl
              simp only [Act.put, List.setIfInBounds_toArray, List.set_cons_succ, List.set_cons_zero]
              refine wpAnyH_take (i := 6) (oi := ?oi31) (v := ?vv31) ?hi31 ?hs31 ?hf31 ?ha31 ?hq31 ?hy31 hHeld ?hr31
              case hi31 => (simp only [List.getElem?_toArray, List.getElem?_cons_succ, List.getElem?_cons_zero]; exact rfl)
              case hs31 => kernel_rfl
              case hf31 => kernel_rfl
              case ha31 => kernel_rfl
              case hq31 => exact fun _ _ _ h => h
              case hy31 =>
                refine Or.inl ⟨by rfl, ?_⟩
                intro w' hSw
                try dsimp only at hSw
                go_simp
                first | done | with_reducible rfl
              simp only [Act.put, List.setIfInBounds_toArray, List.set_cons_succ, List.set_cons_zero]
              refine wpAnyH_take (i := 7) (oi := ?oi32) (v := ?vv32) ?hi32 ?hs32 ?hf32 ?ha32 ?hq32 ?hy32 hHeld ?hr32
              case hi32 => (simp only [List.getElem?_toArray, List.getElem?_cons_succ, List.getElem?_cons_zero]; exact rfl)
              case hs32 => kernel_rfl
              case hf32 => kernel_rfl
              case ha32 => kernel_rfl
              case hq32 => exact fun _ _ _ h => h
              case hy32 =>
                refine Or.inl ⟨by rfl, ?_⟩
                intro w' hSw
                try dsimp only at hSw
                go_simp
                first | done | with_reducible rfl
              simp only [Act.put, List.setIfInBounds_toArray, List.set_cons_succ, List.set_cons_zero]
              refine wpAnyH_take (i := 8) (oi := ?oi33) (v := ?vv33) ?hi33 ?hs33 ?hf33 ?ha33 ?hq33 ?hy33 hHeld ?hr33
              case hi33 => (simp only [List.getElem?_toArray, List.getElem?_cons_succ, List.getElem?_cons_zero]; exact rfl)
              case hs33 => kernel_rfl
              case hf33 => kernel_rfl
              case ha33 => kernel_rfl
              case hq33 => exact fun _ _ _ h => h
              case hy33 =>
                refine Or.inl ⟨by rfl, ?_⟩
                intro w' hSw
                try dsimp only at hSw
                go_simp
                first | done | with_reducible rfl
              simp only [Act.put, List.setIfInBounds_toArray, List.set_cons_succ, List.set_cons_zero]
              refine wpAnyH_take (i := 9) (oi := ?oi34) (v := ?vv34) ?hi34 ?hs34 ?hf34 ?ha34 ?hq34 ?hy34 hHeld ?hr34
              case hi34 => (simp only [List.getElem?_toArray, List.getElem?_cons_succ, List.getElem?_cons_zero]; exact rfl)
              case hs34 => kernel_rfl
              case hf34 => kernel_rfl
              case ha34 => kernel_rfl
              case hq34 => exact fun _ _ _ h => h
              case hy34 =>
                refine Or.inl ⟨by rfl, ?_⟩
                intro w' hSw
                try dsimp only at hSw
                go_simp
                first | done | with_reducible rfl
              simp only [Act.put, List.setIfInBounds_toArray, List.set_cons_succ, List.set_cons_zero]
              refine wpAnyH_take (i := 10) (oi := ?oi35) (v := ?vv35) ?hi35 ?hs35 ?hf35 ?ha35 ?hq35 ?hy35 hHeld ?hr35
              case hi35 => (simp only [List.getElem?_toArray, List.getElem?_cons_succ, List.getElem?_cons_zero]; exact rfl)
              case hs35 => kernel_rfl
              case hf35 => kernel_rfl
              case ha35 => kernel_rfl
              case hq35 => exact fun _ _ _ h => h
              case hy35 =>
                refine Or.inl ⟨by rfl, ?_⟩
                intro w' hSw
                try dsimp only at hSw
                go_simp
                first | done | with_reducible rfl
              simp only [Act.put, List.setIfInBounds_toArray, List.set_cons_succ, List.set_cons_zero]
              refine wpAnyH_take (i := 11) (oi := ?oi36) (v := ?vv36) ?hi36 ?hs36 ?hf36 ?ha36 ?hq36 ?hy36 hHeld ?hr36
              case hi36 => (simp only [List.getElem?_toArray, List.getElem?_cons_succ, List.getElem?_cons_zero]; exact rfl)
              case hs36 => kernel_rfl
              case hf36 => kernel_rfl
              case ha36 => kernel_rfl
              case hq36 => exact fun _ _ _ h => h
              case hy36 =>
                refine Or.inl ⟨by rfl, ?_⟩
                intro w' hSw
                try dsimp only at hSw
                go_simp
                first | done | with_reducible rfl
              simp only [Act.put, List.setIfInBounds_toArray, List.set_cons_succ, List.set_cons_zero]
              refine wpAnyH_take (i := 12) (oi := ?oi37) (v := ?vv37) ?hi37 ?hs37 ?hf37 ?ha37 ?hq37 ?hy37 hHeld ?hr37
              case hi37 => (simp only [List.getElem?_toArray, List.getElem?_cons_succ, List.getElem?_cons_zero]; exact rfl)
              case hs37 => kernel_rfl
              case hf37 => kernel_rfl
              case ha37 => kernel_rfl
              case hq37 => exact fun _ _ _ h => h
              case hy37 =>
                refine Or.inl ⟨by rfl, ?_⟩
                intro w' hSw
                try dsimp only at hSw
                go_simp
                first | done | with_reducible rfl
              simp only [Act.put, List.setIfInBounds_toArray, List.set_cons_succ, List.set_cons_zero]
              refine wpAnyH_take (i := 13) (oi := ?oi38) (v := ?vv38) ?hi38 ?hs38 ?hf38 ?ha38 ?hq38 ?hy38 hHeld ?hr38
              case hi38 => (simp only [List.getElem?_toArray, List.getElem?_cons_succ, List.getElem?_cons_zero]; exact rfl)
              case hs38 => kernel_rfl
              case hf38 => kernel_rfl
              case ha38 => kernel_rfl
              case hq38 => exact fun _ _ _ h => h
              case hy38 =>
                refine Or.inl ⟨by rfl, ?_⟩
                intro w' hSw
                try dsimp only at hSw
                go_simp
                first | done | with_reducible rfl
              simp only [Act.put, List.setIfInBounds_toArray, List.set_cons_succ, List.set_cons_zero]
              refine wpAnyH_take (i := 14) (oi := ?oi39) (v := ?vv39) ?hi39 ?hs39 ?hf39 ?ha39 ?hq39 ?hy39 hHeld ?hr39
              case hi39 => (simp only [List.getElem?_toArray, List.getElem?_cons_succ, List.getElem?_cons_zero]; exact rfl)
              case hs39 => kernel_rfl
              case hf39 => kernel_rfl
              case ha39 => kernel_rfl
              case hq39 => exact fun _ _ _ h => h
              case hy39 =>
                refine Or.inl ⟨by rfl, ?_⟩
                intro w' hSw
                try dsimp only at hSw
                go_simp
                first | done | with_reducible rfl
              simp only [Act.put, List.setIfInBounds_toArray, List.set_cons_succ, List.set_cons_zero]
              refine wpAnyH_take (i := 15) (oi := ?oi40) (v := ?vv40) ?hi40 ?hs40 ?hf40 ?ha40 ?hq40 ?hy40 hHeld ?hr40
              case hi40 => (simp only [List.getElem?_toArray, List.getElem?_cons_succ, List.getElem?_cons_zero]; exact rfl)
              case hs40 => kernel_rfl
              case hf40 => kernel_rfl
              case ha40 => kernel_rfl
              case hq40 => exact fun _ _ _ h => h
              case hy40 =>
                refine Or.inl ⟨by rfl, ?_⟩
                intro w' hSw
                try dsimp only at hSw
                go_simp
                first | done | with_reducible rfl
              simp only [Act.put, List.setIfInBounds_toArray, List.set_cons_succ, List.set_cons_zero]
              refine wpAnyH_take (i := 16) (oi := ?oi41) (v := ?vv41) ?hi41 ?hs41 ?hf41 ?ha41 ?hq41 ?hy41 hHeld ?hr41
              case hi41 => (simp only [List.getElem?_toArray, List.getElem?_cons_succ, List.getElem?_cons_zero]; exact rfl)
              case hs41 => kernel_rfl
              case hf41 => kernel_rfl
              case ha41 => kernel_rfl
              case hq41 => exact fun _ _ _ h => h
              case hy41 =>
                refine Or.inl ⟨by rfl, ?_⟩
                intro w' hSw
                try dsimp only at hSw
                go_simp
                first | done | with_reducible rfl
              simp only [Act.put, List.setIfInBounds_toArray, List.set_cons_succ, List.set_cons_zero]
              refine wpAnyH_ready (rs := [17]) (by kernel_rfl) (by simp) ?_
              refine AllReadyH.cons rfl (fun K hK => ?_) AllReadyH.nil
              go_simp
              go_at_call 12
              obtain ⟨kc, kd, q0, q1, q2, q3, zz, BB⟩ := hHeld
              (with_reducible refine (implPair_yes u2 u1 (v2 + v1) pA pB _ HI.out HA.out HBB.out).mono ?_)
              rintro e w1_ ⟨rfl, hb9⟩
              refine hK.out _ _ ⟨kc.below hb9 (by omega), kd.below hb9 (by omega), (hb9.cell (by show b < _; omega)).trans q0, (hb9.cell (by show b < _; omega)).trans q1, (hb9.cell (by show b' < _; omega)).trans q2, (hb9.cell (by show b' < _; omega)).trans q3, Nat.le_trans zz hb9.size, BB.trans (hb9.mono (by omega))⟩ (fun hHeld => ?_)
              clear hb9 BB zz q3 q2 q1 q0 kd kc
              clear hK K
              try simp only [Act.put, List.setIfInBounds_toArray, List.set_cons_zero, List.set_cons_succ]
              refine wpAnyH_take (i := 18) (oi := ?oi42) (v := ?vv42) ?hi42 ?hs42 ?hf42 ?ha42 ?hq42 ?hy42 hHeld ?hr42
              case hi42 => (simp only [List.getElem?_toArray, List.getElem?_cons_succ, List.getElem?_cons_zero]; exact rfl)
              case hs42 => kernel_rfl
              case hf42 => kernel_rfl
              case ha42 => kernel_rfl
              case hq42 => exact fun _ _ _ h => h
              case hy42 =>
                refine Or.inl ⟨by rfl, ?_⟩
                intro w' hSw
                try dsimp only at hSw
                go_simp
                first | done | with_reducible rfl
              simp only [Act.put, List.setIfInBounds_toArray, List.set_cons_succ, List.set_cons_zero]
              refine wpAnyH_take (i := 19) (oi := ?oi43) (v := ?vv43) ?hi43 ?hs43 ?hf43 ?ha43 ?hq43 ?hy43 hHeld ?hr43
              case hi43 => (simp only [List.getElem?_toArray, List.getElem?_cons_succ, List.getElem?_cons_zero]; exact rfl)
              case hs43 => kernel_rfl
              case hf43 => kernel_rfl
              case ha43 => kernel_rfl
              case hq43 => exact fun _ _ _ h => h
              case hy43 =>
                refine Or.inl ⟨by rfl, ?_⟩
                intro w' hSw
                try dsimp only at hSw
                go_simp
                first | done | with_reducible rfl
              simp only [Act.put, List.setIfInBounds_toArray, List.set_cons_succ, List.set_cons_zero]
              refine wpAnyH_take (i := 20) (oi := ?oi44) (v := ?vv44) ?hi44 ?hs44 ?hf44 ?ha44 ?hq44 ?hy44 hHeld ?hr44
              case hi44 => (simp only [List.getElem?_toArray, List.getElem?_cons_succ, List.getElem?_cons_zero]; exact rfl)
              case hs44 => kernel_rfl
              case hf44 => kernel_rfl
              case ha44 => kernel_rfl
              case hq44 => exact fun _ _ _ h => h
              case hy44 =>
                refine Or.inl ⟨by rfl, ?_⟩
                intro w' hSw
                try dsimp only at hSw
                go_simp
                first | done | with_reducible rfl
              simp only [Act.put, List.setIfInBounds_toArray, List.set_cons_succ, List.set_cons_zero]
              refine wpAnyH_take (i := 21) (oi := ?oi45) (v := ?vv45) ?hi45 ?hs45 ?hf45 ?ha45 ?hq45 ?hy45 hHeld ?hr45
              case hi45 => (simp only [List.getElem?_toArray, List.getElem?_cons_succ, List.getElem?_cons_zero]; exact rfl)
              case hs45 => kernel_rfl
              case hf45 => kernel_rfl
              case ha45 => kernel_rfl
              case hq45 => exact fun _ _ _ h => h
              case hy45 =>
                refine Or.inl ⟨by rfl, ?_⟩
                intro w' hSw
                try dsimp only at hSw
                go_simp
                first | done | with_reducible rfl
              simp only [Act.put, List.setIfInBounds_toArray, List.set_cons_succ, List.set_cons_zero]
              refine wpAnyH_take (i := 22) (oi := ?oi46) (v := ?vv46) ?hi46 ?hs46 ?hf46 ?ha46 ?hq46 ?hy46 hHeld ?hr46
              case hi46 => (simp only [List.getElem?_toArray, List.getElem?_cons_succ, List.getElem?_cons_zero]; exact rfl)
              case hs46 => kernel_rfl
              case hf46 => kernel_rfl
              case ha46 => kernel_rfl
              case hq46 => exact fun _ _ _ h => h
              case hy46 =>
                refine Or.inl ⟨by rfl, ?_⟩
                intro w' hSw
                try dsimp only at hSw
                go_simp
                first | done | with_reducible rfl
              simp only [Act.put, List.setIfInBounds_toArray, List.set_cons_succ, List.set_cons_zero]
              refine wpAnyH_take (i := 23) (oi := ?oi47) (v := ?vv47) ?hi47 ?hs47 ?hf47 ?ha47 ?hq47 ?hy47 hHeld ?hr47
              case hi47 => (simp only [List.getElem?_toArray, List.getElem?_cons_succ, List.getElem?_cons_zero]; exact rfl)
              case hs47 => kernel_rfl
              case hf47 => kernel_rfl
              case ha47 => kernel_rfl
              case hq47 => exact fun _ _ _ h => h
              case hy47 =>
                refine Or.inl ⟨by rfl, ?_⟩
                intro w' hSw
                try dsimp only at hSw
                go_simp
                first | done | with_reducible rfl
              simp only [Act.put, List.setIfInBounds_toArray, List.set_cons_succ, List.set_cons_zero]
              refine wpAnyH_take (i := 24) (oi := ?oi48) (v := ?vv48) ?hi48 ?hs48 ?hf48 ?ha48 ?hq48 ?hy48 hHeld ?hr48
              case hi48 => (simp only [List.getElem?_toArray, List.getElem?_cons_succ, List.getElem?_cons_zero]; exact rfl)
              case hs48 => kernel_rfl
              case hf48 => kernel_rfl
              case ha48 => kernel_rfl
              case hq48 => exact fun _ _ _ h => h
              case hy48 =>
                refine Or.inl ⟨by rfl, ?_⟩
                intro w' hSw
                try dsimp only at hSw
                go_simp
                first | done | with_reducible rfl
              simp only [Act.put, List.setIfInBounds_toArray, List.set_cons_succ, List.set_cons_zero]
              refine wpAnyH_done (by kernel_rfl) ?_ _
              obtain ⟨kc, kd, q0, q1, q2, q3, zz, BB⟩ := hHeld
              clear hwr
              have hst9 : Hid (AgSt w _ lc hc (some ⟨b, o, none⟩) (inP xs) lo' hi' (some ⟨b', o', none⟩) ys) := ⟨BB, kc, kd, Nat.le_trans zc zz, Nat.le_trans zd zz⟩
              go_wp2
              go_ret
              exact ⟨ret_bool HS.out.symm, BB⟩
          · have HS : Hid (agreeB E xs ys = false) := agree_bad (i := k) (j := m) (by omega) (by omega) (fun h => c1 (HT.out.1 h).1)
            have d1 : (pA != 2 * v2) = true := by simpa using c1
            clear c1
            go_wp2_with fail
            have hWW : w.heap.size ≤ wo.heap.size := by first | omega | (simp; omega) | simp
            have g_kc : hc ≤ wo.heap.size := by first | omega | (simp; omega) | simp
            have g_kd : hi' ≤ wo.heap.size := by first | omega | (simp; omega) | simp
            have gc_0 : b < wo.heap.size := by first | omega | (simp; omega) | simp
            have gc_1 : b < wo.heap.size := by first | omega | (simp; omega) | simp
            have gc_2 : b' < wo.heap.size := by first | omega | (simp; omega) | simp
            have gc_3 : b' < wo.heap.size := by first | omega | (simp; omega) | simp
            refine wp_region_held_drew (S := (fun w' : World => Ints w' (lc) (hc) (some ⟨b, o, none⟩) (inP xs) ∧ Ints w' (lo') (hi') (some ⟨b', o', none⟩) (ys) ∧ w'.cell? ⟨b, o + m, none⟩ = some (.int .i64 u2) ∧ w'.cell? ⟨b, o + k, none⟩ = some (.int .i64 u1) ∧ w'.cell? ⟨b', o' + m, none⟩ = some (.int .i64 v2) ∧ w'.cell? ⟨b', o' + k, none⟩ = some (.int .i64 v1) ∧ wo.heap.size ≤ w'.heap.size ∧ Below w.heap.size w w')) (by kernel_rfl) ⟨kc.ints, kd.ints, x2, x1, y2, y1, Nat.le_refl _, BB.drew⟩ (fun hHeld => ?_)
            refine wpAnyH_take (i := 0) (oi := ?oi49) (v := ?vv49) ?hi49 ?hs49 ?hf49 ?ha49 ?hq49 ?hy49 hHeld ?hr49
            case hi49 => (simp only [List.getElem?_toArray, List.getElem?_cons_zero]; exact rfl)
            case hs49 => kernel_rfl
            case hf49 => kernel_rfl
            case ha49 => kernel_rfl
            case hq49 => exact fun _ _ _ h => h
            case hy49 =>
              refine Or.inl ⟨by rfl, ?_⟩
              intro w' hSw
              try dsimp only at hSw
              go_simp
              first | done | with_reducible rfl
            simp only [Act.put, List.setIfInBounds_toArray, List.set_cons_succ, List.set_cons_zero]
            refine wpAnyH_take (i := 1) (oi := ?oi50) (v := ?vv50) ?hi50 ?hs50 ?hf50 ?ha50 ?hq50 ?hy50 hHeld ?hr50
            case hi50 => (simp only [List.getElem?_toArray, List.getElem?_cons_succ, List.getElem?_cons_zero]; exact rfl)
            case hs50 => kernel_rfl
            case hf50 => kernel_rfl
            case ha50 => kernel_rfl
            case hq50 => exact fun _ _ _ h => h
            case hy50 =>
              refine Or.inl ⟨by rfl, ?_⟩
              intro w' hSw
              try dsimp only at hSw
              go_simp
              first | done | with_reducible rfl
            simp only [Act.put, List.setIfInBounds_toArray, List.set_cons_succ, List.set_cons_zero]
            refine wpAnyH_take (i := 2) (oi := ?oi51) (v := ?vv51) ?hi51 ?hs51 ?hf51 ?ha51 ?hq51 ?hy51 hHeld ?hr51
            case hi51 => (simp only [List.getElem?_toArray, List.getElem?_cons_succ, List.getElem?_cons_zero]; exact rfl)
            case hs51 => kernel_rfl
            case hf51 => kernel_rfl
            case ha51 => kernel_rfl
            case hq51 => exact fun _ _ _ h => h
            case hy51 =>
              refine Or.inl ⟨by rfl, ?_⟩
              intro w' hSw
              try dsimp only at hSw
              go_simp
              first | done | with_reducible rfl
            simp only [Act.put, List.setIfInBounds_toArray, List.set_cons_succ, List.set_cons_zero]
            refine wpAnyH_take (i := 3) (oi := ?oi52) (v := ?vv52) ?hi52 ?hs52 ?hf52 ?ha52 ?hq52 ?hy52 hHeld ?hr52
            case hi52 => (simp only [List.getElem?_toArray, List.getElem?_cons_succ, List.getElem?_cons_zero]; exact rfl)
            case hs52 => kernel_rfl
            case hf52 => kernel_rfl
            case ha52 => kernel_rfl
            case hq52 => exact fun _ _ _ h => h
            case hy52 =>
              refine Or.inl ⟨by rfl, ?_⟩
              intro w' hSw
              try dsimp only at hSw
              go_simp
              first | done | with_reducible rfl
            simp only [Act.put, List.setIfInBounds_toArray, List.set_cons_succ, List.set_cons_zero]
            refine wpAnyH_take (i := 4) (oi := ?oi53) (v := ?vv53) ?hi53 ?hs53 ?hf53 ?ha53 ?hq53 ?hy53 hHeld ?hr53
            case hi53 => (simp only [List.getElem?_toArray, List.getElem?_cons_succ, List.getElem?_cons_zero]; exact rfl)
            case hs53 => kernel_rfl
            case hf53 => kernel_rfl
            case ha53 => kernel_rfl
            case hq53 => exact fun _ _ _ h => h
            case hy53 =>
              refine Or.inl ⟨by rfl, ?_⟩
              intro w' hSw
              try dsimp only at hSw
              go_simp
              first | done | with_reducible rfl
            simp only [Act.put, List.setIfInBounds_toArray, List.set_cons_succ, List.set_cons_zero]
            refine wpAnyH_take (i := 5) (oi := ?oi54) (v := ?vv54) ?hi54 ?hs54 ?hf54 ?ha54 ?hq54 ?hy54 hHeld ?hr54
            case hi54 => (simp only [List.getElem?_toArray, List.getElem?_cons_succ, List.getElem?_cons_zero]; exact rfl)
            case hs54 => kernel_rfl
            case hf54 => kernel_rfl
            case ha54 => kernel_rfl
            case hq54 => exact fun _ _ _ h => h
            case hy54 =>
              refine Or.inl ⟨by rfl, ?_⟩
              intro w' hSw
              try dsimp only at hSw
              go_simp
              first | done | with_reducible rfl
            simp only [Act.put, List.setIfInBounds_toArray, List.set_cons_succ, List.set_cons_zero]
            refine wpAnyH_take (i := 6) (oi := ?oi55) (v := ?vv55) ?hi55 ?hs55 ?hf55 ?ha55 ?hq55 ?hy55 hHeld ?hr55
            case hi55 => (simp only [List.getElem?_toArray, List.getElem?_cons_succ, List.getElem?_cons_zero]; exact rfl)
            case hs55 => kernel_rfl
            case hf55 => kernel_rfl
            case ha55 => kernel_rfl
            case hq55 => exact fun _ _ _ h => h
            case hy55 =>
              refine Or.inl ⟨by rfl, ?_⟩
              intro w' hSw
              try dsimp only at hSw
              go_simp
              first | done | with_reducible rfl
            simp only [Act.put, List.setIfInBounds_toArray, List.set_cons_succ, List.set_cons_zero]
            refine wpAnyH_take (i := 7) (oi := ?oi56) (v := ?vv56) ?hi56 ?hs56 ?hf56 ?ha56 ?hq56 ?hy56 hHeld ?hr56
            case hi56 => (simp only [List.getElem?_toArray, List.getElem?_cons_succ, List.getElem?_cons_zero]; exact rfl)
            case hs56 => kernel_rfl
            case hf56 => kernel_rfl
            case ha56 => kernel_rfl
            case hq56 => exact fun _ _ _ h => h
            case hy56 =>
              refine Or.inl ⟨by rfl, ?_⟩
              intro w' hSw
              try dsimp only at hSw
              go_simp
              first | done | with_reducible rfl
            simp only [Act.put, List.setIfInBounds_toArray, List.set_cons_succ, List.set_cons_zero]
            refine wpAnyH_take (i := 8) (oi := ?oi57) (v := ?vv57) ?hi57 ?hs57 ?hf57 ?ha57 ?hq57 ?hy57 hHeld ?hr57
            case hi57 => (simp only [List.getElem?_toArray, List.getElem?_cons_succ, List.getElem?_cons_zero]; exact rfl)
            case hs57 => kernel_rfl
            case hf57 => kernel_rfl
            case ha57 => kernel_rfl
            case hq57 => exact fun _ _ _ h => h
            case hy57 =>
              refine Or.inl ⟨by rfl, ?_⟩
              intro w' hSw
              try dsimp only at hSw
              go_simp
              first | done | with_reducible rfl
            simp only [Act.put, List.setIfInBounds_toArray, List.set_cons_succ, List.set_cons_zero]
            refine wpAnyH_take (i := 9) (oi := ?oi58) (v := ?vv58) ?hi58 ?hs58 ?hf58 ?ha58 ?hq58 ?hy58 hHeld ?hr58
            case hi58 => (simp only [List.getElem?_toArray, List.getElem?_cons_succ, List.getElem?_cons_zero]; exact rfl)
            case hs58 => kernel_rfl
            case hf58 => kernel_rfl
            case ha58 => kernel_rfl
            case hq58 => exact fun _ _ _ h => h
            case hy58 =>
              refine Or.inl ⟨by rfl, ?_⟩
              intro w' hSw
              try dsimp only at hSw
              go_simp
              first | done | with_reducible rfl
            simp only [Act.put, List.setIfInBounds_toArray, List.set_cons_succ, List.set_cons_zero]
            refine wpAnyH_take (i := 10) (oi := ?oi59) (v := ?vv59) ?hi59 ?hs59 ?hf59 ?ha59 ?hq59 ?hy59 hHeld ?hr59
            case hi59 => (simp only [List.getElem?_toArray, List.getElem?_cons_succ, List.getElem?_cons_zero]; exact rfl)
            case hs59 => kernel_rfl
            case hf59 => kernel_rfl
            case ha59 => kernel_rfl
            case hq59 => exact fun _ _ _ h => h
            case hy59 =>
              refine Or.inl ⟨by rfl, ?_⟩
              intro w' hSw
              try dsimp only at hSw
              go_simp
              first | done | with_reducible rfl
            simp only [Act.put, List.setIfInBounds_toArray, List.set_cons_succ, List.set_cons_zero]
            refine wpAnyH_take (i := 11) (oi := ?oi60) (v := ?vv60) ?hi60 ?hs60 ?hf60 ?ha60 ?hq60 ?hy60 hHeld ?hr60
            case hi60 => (simp only [List.getElem?_toArray, List.getElem?_cons_succ, List.getElem?_cons_zero]; exact rfl)
            case hs60 => kernel_rfl
            case hf60 => kernel_rfl
            case ha60 => kernel_rfl
            case hq60 => exact fun _ _ _ h => h
            case hy60 =>
              refine Or.inl ⟨by rfl, ?_⟩
              intro w' hSw
              try dsimp only at hSw
              go_simp
              first | done | with_reducible rfl
            simp only [Act.put, List.setIfInBounds_toArray, List.set_cons_succ, List.set_cons_zero]
            refine wpAnyH_take (i := 12) (oi := ?oi61) (v := ?vv61) ?hi61 ?hs61 ?hf61 ?ha61 ?hq61 ?hy61 hHeld ?hr61
            case hi61 => (simp only [List.getElem?_toArray, List.getElem?_cons_succ, List.getElem?_cons_zero]; exact rfl)
            case hs61 => kernel_rfl
            case hf61 => kernel_rfl
            case ha61 => kernel_rfl
            case hq61 => exact fun _ _ _ h => h
            case hy61 =>
              refine Or.inl ⟨by rfl, ?_⟩
              intro w' hSw
              try dsimp only at hSw
              go_simp
              first | done | with_reducible rfl
            simp only [Act.put, List.setIfInBounds_toArray, List.set_cons_succ, List.set_cons_zero]
            refine wpAnyH_take (i := 13) (oi := ?oi62) (v := ?vv62) ?hi62 ?hs62 ?hf62 ?ha62 ?hq62 ?hy62 hHeld ?hr62
            case hi62 => (simp only [List.getElem?_toArray, List.getElem?_cons_succ, List.getElem?_cons_zero]; exact rfl)
            case hs62 => kernel_rfl
            case hf62 => kernel_rfl
            case ha62 => kernel_rfl
            case hq62 => exact fun _ _ _ h => h
            case hy62 =>
              refine Or.inl ⟨by rfl, ?_⟩
              intro w' hSw
              try dsimp only at hSw
              go_simp
              first | done | with_reducible rfl
            simp only [Act.put, List.setIfInBounds_toArray, List.set_cons_succ, List.set_cons_zero]
            refine wpAnyH_take (i := 14) (oi := ?oi63) (v := ?vv63) ?hi63 ?hs63 ?hf63 ?ha63 ?hq63 ?hy63 hHeld ?hr63
            case hi63 => (simp only [List.getElem?_toArray, List.getElem?_cons_succ, List.getElem?_cons_zero]; exact rfl)
            case hs63 => kernel_rfl
            case hf63 => kernel_rfl
            case ha63 => kernel_rfl
            case hq63 => exact fun _ _ _ h => h
            case hy63 =>
              refine Or.inl ⟨by rfl, ?_⟩
              intro w' hSw
              try dsimp only at hSw
              go_simp
              first | done | with_reducible rfl
            simp only [Act.put, List.setIfInBounds_toArray, List.set_cons_succ, List.set_cons_zero]
            refine wpAnyH_take (i := 15) (oi := ?oi64) (v := ?vv64) ?hi64 ?hs64 ?hf64 ?ha64 ?hq64 ?hy64 hHeld ?hr64
            case hi64 => (simp only [List.getElem?_toArray, List.getElem?_cons_succ, List.getElem?_cons_zero]; exact rfl)
            case hs64 => kernel_rfl
            case hf64 => kernel_rfl
            case ha64 => kernel_rfl
            case hq64 => exact fun _ _ _ h => h
            case hy64 =>
              refine Or.inl ⟨by rfl, ?_⟩
              intro w' hSw
              try dsimp only at hSw
              go_simp
              first | done | with_reducible rfl
            simp only [Act.put, List.setIfInBounds_toArray, List.set_cons_succ, List.set_cons_zero]
            refine wpAnyH_take (i := 16) (oi := ?oi65) (v := ?vv65) ?hi65 ?hs65 ?hf65 ?ha65 ?hq65 ?hy65 hHeld ?hr65
            case hi65 => (simp only [List.getElem?_toArray, List.getElem?_cons_succ, List.getElem?_cons_zero]; exact rfl)
            case hs65 => kernel_rfl
            case hf65 => kernel_rfl
            case ha65 => kernel_rfl
            case hq65 => exact fun _ _ _ h => h
            case hy65 =>
              refine Or.inl ⟨by rfl, ?_⟩
              intro w' hSw
              try dsimp only at hSw
              go_simp
              first | done | with_reducible rfl
            simp only [Act.put, List.setIfInBounds_toArray, List.set_cons_succ, List.set_cons_zero]
            refine wpAnyH_ready (rs := [17]) (by kernel_rfl) (by simp) ?_
            refine AllReadyH.cons rfl (fun K hK => ?_) AllReadyH.nil
            go_simp
            go_at_call 12
            obtain ⟨kc, kd, q0, q1, q2, q3, zz, BB⟩ := hHeld
            (with_reducible refine (implPair_yes u2 u1 (v2 + v1) pA pB _ HI.out HA.out HBB.out).mono ?_)
            rintro e w1_ ⟨rfl, hb9⟩
            refine hK.out _ _ ⟨kc.below hb9 (by omega), kd.below hb9 (by omega), (hb9.cell (by show b < _; omega)).trans q0, (hb9.cell (by show b < _; omega)).trans q1, (hb9.cell (by show b' < _; omega)).trans q2, (hb9.cell (by show b' < _; omega)).trans q3, Nat.le_trans zz hb9.size, BB.trans (hb9.mono (by omega))⟩ (fun hHeld => ?_)
            clear hb9 BB zz q3 q2 q1 q0 kd kc
            clear hK K
            try simp only [Act.put, List.setIfInBounds_toArray, List.set_cons_zero, List.set_cons_succ]
            refine wpAnyH_take (i := 18) (oi := ?oi66) (v := ?vv66) ?hi66 ?hs66 ?hf66 ?ha66 ?hq66 ?hy66 hHeld ?hr66
            case hi66 => (simp only [List.getElem?_toArray, List.getElem?_cons_succ, List.getElem?_cons_zero]; exact rfl)
            case hs66 => kernel_rfl
            case hf66 => kernel_rfl
            case ha66 => kernel_rfl
            case hq66 => exact fun _ _ _ h => h
            case hy66 =>
              refine Or.inl ⟨by rfl, ?_⟩
              intro w' hSw
              try dsimp only at hSw
              go_simp
              first | done | with_reducible rfl
            simp only [Act.put, List.setIfInBounds_toArray, List.set_cons_succ, List.set_cons_zero]
            refine wpAnyH_take (i := 19) (oi := ?oi67) (v := ?vv67) ?hi67 ?hs67 ?hf67 ?ha67 ?hq67 ?hy67 hHeld ?hr67
            case hi67 => (simp only [List.getElem?_toArray, List.getElem?_cons_succ, List.getElem?_cons_zero]; exact rfl)
            case hs67 => kernel_rfl
            case hf67 => kernel_rfl
            case ha67 => kernel_rfl
            case hq67 => exact fun _ _ _ h => h
            case hy67 =>
              refine Or.inl ⟨by rfl, ?_⟩
              intro w' hSw
              try dsimp only at hSw
              go_simp
              first | done | with_reducible rfl
            simp only [Act.put, List.setIfInBounds_toArray, List.set_cons_succ, List.set_cons_zero]
            refine wpAnyH_take (i := 20) (oi := ?oi68) (v := ?vv68) ?hi68 ?hs68 ?hf68 ?ha68 ?hq68 ?hy68 hHeld ?hr68
            case hi68 => (simp only [List.getElem?_toArray, List.getElem?_cons_succ, List.getElem?_cons_zero]; exact rfl)
            case hs68 => kernel_rfl
            case hf68 => kernel_rfl
            case ha68 => kernel_rfl
            case hq68 => exact fun _ _ _ h => h
            case hy68 =>
              refine Or.inl ⟨by rfl, ?_⟩
              intro w' hSw
              try dsimp only at hSw
              go_simp
              first | done | with_reducible rfl
            simp only [Act.put, List.setIfInBounds_toArray, List.set_cons_succ, List.set_cons_zero]
            refine wpAnyH_take (i := 21) (oi := ?oi69) (v := ?vv69) ?hi69 ?hs69 ?hf69 ?ha69 ?hq69 ?hy69 hHeld ?hr69
            case hi69 => (simp only [List.getElem?_toArray, List.getElem?_cons_succ, List.getElem?_cons_zero]; exact rfl)
            case hs69 => kernel_rfl
            case hf69 => kernel_rfl
            case ha69 => kernel_rfl
            case hq69 => exact fun _ _ _ h => h
            case hy69 =>
              refine Or.inl ⟨by rfl, ?_⟩
              intro w' hSw
              try dsimp only at hSw
              go_simp
              first | done | with_reducible rfl
            simp only [Act.put, List.setIfInBounds_toArray, List.set_cons_succ, List.set_cons_zero]
            refine wpAnyH_take (i := 22) (oi := ?oi70) (v := ?vv70) ?hi70 ?hs70 ?hf70 ?ha70 ?hq70 ?hy70 hHeld ?hr70
            case hi70 => (simp only [List.getElem?_toArray, List.getElem?_cons_succ, List.getElem?_cons_zero]; exact rfl)
            case hs70 => kernel_rfl
            case hf70 => kernel_rfl
            case ha70 => kernel_rfl
            case hq70 => exact fun _ _ _ h => h
            case hy70 =>
              refine Or.inl ⟨by rfl, ?_⟩
              intro w' hSw
              try dsimp only at hSw
              go_simp
              first | done | with_reducible rfl
            simp only [Act.put, List.setIfInBounds_toArray, List.set_cons_succ, List.set_cons_zero]
            refine wpAnyH_take (i := 23) (oi := ?oi71) (v := ?vv71) ?hi71 ?hs71 ?hf71 ?ha71 ?hq71 ?hy71 hHeld ?hr71
            case hi71 => (simp only [List.getElem?_toArray, List.getElem?_cons_succ, List.getElem?_cons_zero]; exact rfl)
            case hs71 => kernel_rfl
            case hf71 => kernel_rfl
            case ha71 => kernel_rfl
            case hq71 => exact fun _ _ _ h => h
            case hy71 =>
              refine Or.inl ⟨by rfl, ?_⟩
              intro w' hSw
              try dsimp only at hSw
              go_simp
              first | done | with_reducible rfl
            simp only [Act.put, List.setIfInBounds_toArray, List.set_cons_succ, List.set_cons_zero]
            refine wpAnyH_take (i := 24) (oi := ?oi72) (v := ?vv72) ?hi72 ?hs72 ?hf72 ?ha72 ?hq72 ?hy72 hHeld ?hr72
            case hi72 => (simp only [List.getElem?_toArray, List.getElem?_cons_succ, List.getElem?_cons_zero]; exact rfl)
            case hs72 => kernel_rfl
            case hf72 => kernel_rfl
            case ha72 => kernel_rfl
            case hq72 => exact fun _ _ _ h => h
            case hy72 =>
              refine Or.inl ⟨by rfl, ?_⟩
              intro w' hSw
              try dsimp only at hSw
              go_simp
              first | done | with_reducible rfl
            simp only [Act.put, List.setIfInBounds_toArray, List.set_cons_succ, List.set_cons_zero]
            refine wpAnyH_done (by kernel_rfl) ?_ _
            obtain ⟨kc, kd, q0, q1, q2, q3, zz, BB⟩ := hHeld
            clear hwr
            have hst9 : Hid (AgSt w _ lc hc (some ⟨b, o, none⟩) (inP xs) lo' hi' (some ⟨b', o', none⟩) ys) := ⟨BB, kc, kd, Nat.le_trans zc zz, Nat.le_trans zd zz⟩
            go_wp2
            go_ret
            exact ⟨ret_bool HS.out.symm, BB⟩
        · have hme : m = k := by omega
          have HS : Hid (AgreeTo xs ys (k + 1)) := HK.out.succ (by have e := HRR.out; rw [hme] at e; exact e)
          have hmn : ¬ (m : Int) < (k : Int) := by omega
          clear hme
          go_wp2
          go_roundw
          case rel => exact ⟨k + 1, by omega, by go_num, HS.out, HSU.out⟩
          case measure => simp [intOf]; omega
    · obtain rfl : k = ys.length := by omega
      have HS : Hid (agreeB E xs ys = true) := agree_end HO.out HK.out
      go_wp2
      go_ret
      exact ⟨ret_bool HS.out.symm, HST.out.1⟩

theorem implPairsOk_any (E : Int) (A : Option Addr) (c : Nat) (xs : List Int) (D : Option Addr) (d : Nat) (ys : List Int) (w : World) (lo hi : Nat) (h : Ints w lo hi A xs) (hh : hi ≤ w.heap.size) (hl : xs.length ≤ 1152921504606846976)
    (lo' hi' : Nat) (h' : Ints w lo' hi' D ys) (hh' : hi' ≤ w.heap.size) (hl' : ys.length ≤ 1152921504606846976) :
    Calls Try.prog 16 #[.agg #[.int .i64 E, .slice A xs.length c], .slice D ys.length d] w fun e w' => e = .returned (.bool (agreeB E xs ys)) ∧ Below w.heap.size w w' := by
  by_cases hok : awardsB E xs ys = true
  · exact implPairsOk_yes E A c xs D d ys w lo hi h hh hl lo' hi' h' hh' hl' hok
  · exact implPairsOk_no E A c xs D d ys w lo hi h hh hl lo' hi' h' hh' hl' (by simpa using hok)

theorem implPairs_is (E : Int) (A : Option Addr) (c : Nat) (xs : List Int) (D : Option Addr) (d : Nat) (ys : List Int) (w : World) (lo hi : Nat) (h : Ints w lo hi A xs) (hh : hi ≤ w.heap.size) (hl : xs.length ≤ 1152921504606846976)
    (lo' hi' : Nat) (h' : Ints w lo' hi' D ys) (hh' : hi' ≤ w.heap.size) (hl' : ys.length ≤ 1152921504606846976) (K : Bool) (hK : agreeB E xs ys = K) :
    Calls Try.prog 16 #[.agg #[.int .i64 E, .slice A xs.length c], .slice D ys.length d] w fun e w' => e = .returned (.bool K) ∧ Below w.heap.size w w' := by
  have e := implPairsOk_any E A c xs D d ys w lo hi h hh hl lo' hi' h' hh' hl'
  rw [hK] at e
  exact e

end Go.Proofs.Ytbegdcnljafloaa
