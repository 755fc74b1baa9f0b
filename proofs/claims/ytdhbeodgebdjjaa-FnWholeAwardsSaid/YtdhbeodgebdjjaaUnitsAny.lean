/-
  The functions WholeAwards and WholeShares, of the program and of the given package, return the whole units of awards and of shares, and make new memory only. No condition.
-/
import Derived.Test.YtdhbeodgebdjjaaUnitsSpec
import Derived.Test.YtdhbeodgebdjjaaOwedOf
namespace Go.Proofs.Ytdhbeodgebdjjaa
open Go.RowKit

noncomputable def wholeAw (E : Int) (xs ys : List Int) : List Int := if awardsB E xs ys = true then wholeRow 48 E ys else []
def wholeSh (E : Int) (xs : List Int) : List Int := if caseOkB E xs = true then wholeRow (max 1 xs.sum) E (shareRow E xs) else []
theorem wholeAw_len (E : Int) (xs ys : List Int) : (wholeAw E xs ys).length ≤ xs.length := by
  unfold wholeAw
  split
  · have h : Aw E xs ys := (awardsB_iff E xs ys).1 (by assumption)
    rw [wholeRow_length, h.2.1]; exact Nat.le_refl _
  · simp
theorem wholeSh_len (E : Int) (xs : List Int) : (wholeSh E xs).length ≤ xs.length := by
  unfold wholeSh
  split
  · rw [wholeRow_length, shareRow_length]; exact Nat.le_refl _
  · simp
theorem implOwed_is (E : Int) (A : Option Addr) (c : Nat) (xs : List Int) (w : World) (lo hi : Nat) (h : Ints w lo hi A xs) (hh : hi ≤ w.heap.size) (hl : xs.length ≤ 1152921504606846976) (hok : caseOkB E xs = true) :
    Calls Try.prog 18 #[.agg #[.int .i64 E, .slice A xs.length c]] w fun e w' => e = .returned (.int .i64 xs.sum) ∧ Below w.heap.size w w' := by
  have e := implOwedOf_any E A c xs w lo hi h hh hl
  have e2 : owedOf E xs = xs.sum := by simp [owedOf, hok]
  rw [e2] at e
  exact e


set_option maxRecDepth 10000 in
set_option maxHeartbeats 400000 in
theorem implWholeAwards_any (E : Int) (A : Option Addr) (c : Nat) (xs : List Int) (D : Option Addr) (d : Nat) (ys : List Int) (w : World) (lo hi : Nat) (h : Ints w lo hi A xs) (hh : hi ≤ w.heap.size) (hl : xs.length ≤ 1152921504606846976)
    (lo' hi' : Nat) (h' : Ints w lo' hi' D ys) (hh' : hi' ≤ w.heap.size) (hl' : ys.length ≤ 1152921504606846976) :
    Calls Try.prog 29 #[.agg #[.int .i64 E, .slice A xs.length c], .slice D ys.length d] w (RetInts w (wholeAw E xs ys)) := by
  have k0 := h.alloc hh (.cells #[.int .i64 E, .slice A xs.length c] 25)
  have q0 := h'.alloc hh' (.cells #[.int .i64 E, .slice A xs.length c] 25)
  have a0 := new2 w (.int .i64 E) (.slice A xs.length c) 25
  have B0 := (Below.refl w.heap.size w).alloc (Nat.le_refl _) (.cells #[.int .i64 E, .slice A xs.length c] 25)
  by_cases hok : awardsB E xs ys = true
  · have hA := (awardsB_iff E xs ys).1 hok
    have hbd := caseOk_bd hA.1
    have hy4 : ys.length ≤ 4 := by have e := hA.2.1; omega
    have hy1 : 1 ≤ ys.length := by have e := hA.2.1; omega
    have HV := Lib.hid (aw_range hA.1 hA.2.1 hA.2.2.1)
    have HS : Hid (ys.sum = 48 * E) := hA.2.2.2
    have HO := Lib.hid hok
    have HR : Hid (wholeAw E xs ys = wholeRow 48 E ys) := if_pos hok
    clear hok hA
    rw [HR.out]
    go_enter Try.func29, Try.ntmps29
    go_wp2_with fail
    refine (implAwardsOk_any E A c xs D d ys _ _ _ k0 (by rw [hsz]; omega) hl _ _ q0 (by rw [hsz]; omega) hl').mono ?_
    rintro e w1 ⟨he1, hb1⟩
    rw [HO.out] at he1
    subst he1
    rw [hsz] at hb1
    obtain ⟨a1, a1'⟩ := keep2 hb1 a0 (by omega)
    have q1 := q0.below hb1 (by omega)
    have z1 := hb1.size
    rw [hsz] at z1
    have B1 := B0.trans (hb1.mono (by omega))
    clear hb1 a0 k0 q0 h h' B0
    go_wp2_with fail
    refine (wholeUnits_any D d ys 48 E w1 _ _ q1 (by omega) hy1 hy4 (by omega) (by omega) (fun y hy => by have e := HV.out y hy; omega) hbd.2.2.1 (by omega) HS.out).mono ?_
    rintro e w2 ⟨A2, c2, rfl, ho2, hb2⟩
    go_wp2
    go_ret
    exact ⟨A2, c2, rfl, ho2.more (by omega) (Nat.le_refl _), B1.trans (hb2.mono (by omega))⟩
  · have hok' : awardsB E xs ys = false := by simpa using hok
    have HO := Lib.hid hok'
    have HR : Hid (wholeAw E xs ys = []) := if_neg hok
    clear hok hok'
    rw [HR.out]
    go_enter Try.func29, Try.ntmps29
    go_wp2_with fail
    refine (implAwardsOk_any E A c xs D d ys _ _ _ k0 (by rw [hsz]; omega) hl _ _ q0 (by rw [hsz]; omega) hl').mono ?_
    rintro e w1 ⟨he1, hb1⟩
    rw [HO.out] at he1
    subst he1
    rw [hsz] at hb1
    have B1 := B0.trans (hb1.mono (by omega))
    clear hb1
    go_wp2
    go_ret
    exact ⟨none, 0, rfl, Own.nil, B1⟩

set_option maxRecDepth 10000 in
set_option maxHeartbeats 1000000 in
theorem implWholeShares_any (E : Int) (A : Option Addr) (c : Nat) (xs : List Int) (w : World) (lo hi : Nat) (h : Ints w lo hi A xs) (hh : hi ≤ w.heap.size) (hl : xs.length ≤ 1152921504606846976) :
    Calls Try.prog 33 #[.agg #[.int .i64 E, .slice A xs.length c]] w (RetInts w (wholeSh E xs)) := by
  have k0 := h.alloc hh (.cells #[.int .i64 E, .slice A xs.length c] 25)
  have a0 := new2 w (.int .i64 E) (.slice A xs.length c) 25
  have B0 := (Below.refl w.heap.size w).alloc (Nat.le_refl _) (.cells #[.int .i64 E, .slice A xs.length c] 25)
  by_cases hok : caseOkB E xs = true
  · have hbd := caseOk_bd hok
    have HV : Hid (∀ y ∈ shareRow E xs, 0 ≤ y ∧ y ≤ 100000) := fun y hy => by
      obtain ⟨i, hi, rfl⟩ := List.mem_iff_getElem.1 hy
      have hi' : i < xs.length := by rw [shareRow_length] at hi; exact hi
      have e := share_bd hok i hi'
      rw [shareRow_at E xs i hi']
      omega
    have HS : Hid ((shareRow E xs).sum = max 1 xs.sum * E) := shares_sum hok rfl
    have HO := Lib.hid hok
    have HR : Hid (wholeSh E xs = wholeRow (max 1 xs.sum) E (shareRow E xs)) := if_pos hok
    clear hok
    rw [HR.out]
    go_enter Try.func33, Try.ntmps33
    go_wp2_with fail
    refine (implCaseOk_yes E A c xs _ _ _ k0 (by rw [hsz]; omega) (by omega) HO.out).mono ?_
    rintro e w1 ⟨rfl, hb1⟩
    rw [hsz] at hb1
    obtain ⟨a1, a1'⟩ := keep2 hb1 a0 (by omega)
    have q1 := k0.below hb1 (by omega)
    have z1 := hb1.size
    rw [hsz] at z1
    have B1 := B0.trans (hb1.mono (by omega))
    clear hb1 a0 k0 h B0
    go_wp2_with fail
    have hWW : w.heap.size ≤ w1.heap.size := by first | omega | (simp; omega) | simp
    have g_bx : w.heap.size < w1.heap.size := by first | omega | (simp; omega) | simp
    have g_kx : hi ≤ w1.heap.size := by first | omega | (simp; omega) | simp
    refine wp_region_held_drew (S := (fun w' : World => w'.cell? ⟨w.heap.size, 0, none⟩ = some (.int .i64 E) ∧ w'.cell? ⟨w.heap.size, 1, none⟩ = some (.slice A xs.length c) ∧ Ints w' (lo) (hi) (A) (xs) ∧ w1.heap.size ≤ w'.heap.size ∧ Below w.heap.size w w')) (by kernel_rfl) ⟨a1, a1', q1, Nat.le_refl _, B1.drew⟩ (fun hHeld => ?_)
    refine wpAnyH_take (i := 0) (oi := ?oi1) (v := ?vv1) ?hi1 ?hs1 ?hf1 ?ha1 ?hq1 ?hy1 hHeld ?hr1
    case hi1 => (simp only [List.getElem?_toArray, List.getElem?_cons_zero]; exact rfl)
    case hs1 => kernel_rfl
    case hf1 => kernel_rfl
    case ha1 => kernel_rfl
    case hq1 => exact fun _ _ _ h => h
    case hy1 =>
      refine Or.inl ⟨by rfl, ?_⟩
      intro w' hSw
      try dsimp only at hSw
      go_simp
      first | done | with_reducible rfl
    simp only [Act.put, List.setIfInBounds_toArray, List.set_cons_succ, List.set_cons_zero]
    refine wpAnyH_take (i := 2) (oi := ?oi2) (v := ?vv2) ?hi2 ?hs2 ?hf2 ?ha2 ?hq2 ?hy2 hHeld ?hr2
    case hi2 => (simp only [List.getElem?_toArray, List.getElem?_cons_succ, List.getElem?_cons_zero]; exact rfl)
    case hs2 => kernel_rfl
    case hf2 => kernel_rfl
    case ha2 => kernel_rfl
    case hq2 => exact fun _ _ _ h => h
    case hy2 =>
      refine Or.inl ⟨by rfl, ?_⟩
      intro w' hSw
      try dsimp only at hSw
      go_simp
      first | done | with_reducible rfl
    simp only [Act.put, List.setIfInBounds_toArray, List.set_cons_succ, List.set_cons_zero]
    refine wpAnyH_take (i := 5) (oi := ?oi3) (v := ?vv3) ?hi3 ?hs3 ?hf3 ?ha3 ?hq3 ?hy3 hHeld ?hr3
    case hi3 => (simp only [List.getElem?_toArray, List.getElem?_cons_succ, List.getElem?_cons_zero]; exact rfl)
    case hs3 => kernel_rfl
    case hf3 => kernel_rfl
    case ha3 => kernel_rfl
    case hq3 => exact fun _ _ _ h => h
    case hy3 =>
      refine Or.inl ⟨by rfl, ?_⟩
      intro w' hSw
      try dsimp only at hSw
      go_simp
      first | done | with_reducible rfl
    simp only [Act.put, List.setIfInBounds_toArray, List.set_cons_succ, List.set_cons_zero]
    refine wpAnyH_take (i := 6) (oi := ?oi4) (v := ?vv4) ?hi4 ?hs4 ?hf4 ?ha4 ?hq4 ?hy4 hHeld ?hr4
    case hi4 => (simp only [List.getElem?_toArray, List.getElem?_cons_succ, List.getElem?_cons_zero]; exact rfl)
    case hs4 => kernel_rfl
    case hf4 => kernel_rfl
    case ha4 => kernel_rfl
    case hq4 => exact fun _ _ _ h => h
    case hy4 =>
      refine Or.inl ⟨by rfl, ?_⟩
      intro w' hSw
      try dsimp only at hSw
      go_simp
      first | done | with_reducible rfl
    simp only [Act.put, List.setIfInBounds_toArray, List.set_cons_succ, List.set_cons_zero]
    refine wpAnyH_ready (rs := [1]) (by kernel_rfl) (by simp) ?_
    refine AllReadyH.cons rfl (fun K hK => ?_) AllReadyH.nil
    go_simp
    go_at_call 12
    obtain ⟨y0, y1, kx, zz, BB⟩ := hHeld
    (with_reducible refine (implShareRow_yes E A c xs _ _ _ kx (by omega) HO.out).mono ?_)
    rintro e w2_ ⟨Ab, cb, rfl, hob, hb9⟩
    refine hK.out _ _ ⟨(keep2 hb9 ⟨y0, y1⟩ (by omega)).1, (keep2 hb9 ⟨y0, y1⟩ (by omega)).2, kx.below hb9 (by omega), Nat.le_trans zz hb9.size, BB.trans (hb9.mono (by omega))⟩ (fun hHeld => ?_)
    clear hb9 BB zz kx y1 y0
    clear hK K
    try simp only [Act.put, List.setIfInBounds_toArray, List.set_cons_zero, List.set_cons_succ]
    refine wpAnyH_ready (rs := [3]) (by kernel_rfl) (by simp) ?_
    refine AllReadyH.cons rfl (fun K hK => ?_) AllReadyH.nil
    go_simp
    go_at_call 18
    obtain ⟨y0, y1, kx, zz, BB⟩ := hHeld
    (with_reducible refine (implOwed_is E A c xs _ _ _ kx (by omega) hl HO.out).mono ?_)
    rintro e w3_ ⟨rfl, hb9⟩
    have hob := hob.below hb9 (Nat.le_refl _)
    have hob := hob.more (Nat.le_refl _) hb9.size
    refine hK.out _ _ ⟨(keep2 hb9 ⟨y0, y1⟩ (by omega)).1, (keep2 hb9 ⟨y0, y1⟩ (by omega)).2, kx.below hb9 (by omega), Nat.le_trans zz hb9.size, BB.trans (hb9.mono (by omega))⟩ (fun hHeld => ?_)
    clear hb9 BB zz kx y1 y0
    clear hK K
    try simp only [Act.put, List.setIfInBounds_toArray, List.set_cons_zero, List.set_cons_succ]
    refine wpAnyH_take (i := 4) (oi := ?oi5) (v := ?vv5) ?hi5 ?hs5 ?hf5 ?ha5 ?hq5 ?hy5 hHeld ?hr5
    case hi5 => (simp only [List.getElem?_toArray, List.getElem?_cons_succ, List.getElem?_cons_zero]; exact rfl)
    case hs5 => kernel_rfl
    case hf5 => kernel_rfl
    case ha5 => kernel_rfl
    case hq5 => exact fun _ _ _ h => h
    case hy5 =>
      refine Or.inl ⟨by rfl, ?_⟩
      intro w' hSw
      try dsimp only at hSw
      go_simp
      first | done | with_reducible rfl
    simp only [Act.put, List.setIfInBounds_toArray, List.set_cons_succ, List.set_cons_zero]
    refine wpAnyH_ready (rs := [7]) (by kernel_rfl) (by simp) ?_
    refine AllReadyH.cons rfl (fun K hK => ?_) AllReadyH.nil
    go_simp
    go_at_call 56
    obtain ⟨y0, y1, kx, zz, BB⟩ := hHeld
    (with_reducible refine (wholeUnits_any Ab cb (shareRow E xs) (max 1 xs.sum) E _ _ _ hob.ints (Nat.le_refl _) (by rw [shareRow_length]; omega) (by rw [shareRow_length]; omega) (by omega) (by omega) HV.out hbd.2.2.1 (by omega) HS.out).mono ?_)
    rintro e w4_ ⟨Ac, cc, rfl, hoc, hb9⟩
    have hoc2 := hoc.more (lo' := w.heap.size) (by omega) (Nat.le_refl _)
    have hob := hob.below hb9 (Nat.le_refl _)
    have hob := hob.more (Nat.le_refl _) hb9.size
    refine hK.out _ _ ⟨(keep2 hb9 ⟨y0, y1⟩ (by omega)).1, (keep2 hb9 ⟨y0, y1⟩ (by omega)).2, kx.below hb9 (by omega), Nat.le_trans zz hb9.size, BB.trans (hb9.mono (by omega))⟩ (fun hHeld => ?_)
    clear hb9 BB zz kx y1 y0
    clear hK K
    try simp only [Act.put, List.setIfInBounds_toArray, List.set_cons_zero, List.set_cons_succ]
    refine wpAnyH_take (i := 8) (oi := ?oi6) (v := ?vv6) ?hi6 ?hs6 ?hf6 ?ha6 ?hq6 ?hy6 hHeld ?hr6
    case hi6 => (simp only [List.getElem?_toArray, List.getElem?_cons_succ, List.getElem?_cons_zero]; exact rfl)
    case hs6 => kernel_rfl
    case hf6 => kernel_rfl
    case ha6 => kernel_rfl
    case hq6 => exact fun _ _ _ h => h
    case hy6 =>
      refine Or.inl ⟨by rfl, ?_⟩
      intro w' hSw
      try dsimp only at hSw
      go_simp
      first | done | with_reducible rfl
    simp only [Act.put, List.setIfInBounds_toArray, List.set_cons_succ, List.set_cons_zero]
    refine wpAnyH_done (by kernel_rfl) ?_ _
    obtain ⟨y0, y1, kx, zz, BB⟩ := hHeld
    go_wp2
    go_ret
    exact ⟨Ac, cc, rfl, hoc2, BB⟩
  · have hok' : caseOkB E xs = false := by simpa using hok
    have HO := Lib.hid hok'
    have HR : Hid (wholeSh E xs = []) := if_neg hok
    clear hok hok'
    rw [HR.out]
    go_enter Try.func33, Try.ntmps33
    go_wp2_with fail
    refine (implCaseOk_no E A c xs _ _ _ k0 (by rw [hsz]; omega) hl HO.out).mono ?_
    rintro e w1 ⟨rfl, hb1⟩
    rw [hsz] at hb1
    have B1 := B0.trans (hb1.mono (by omega))
    clear hb1
    go_wp2
    go_ret
    exact ⟨none, 0, rfl, Own.nil, B1⟩

theorem specWholeAwards_any (E : Int) (A : Option Addr) (c : Nat) (xs : List Int) (D : Option Addr) (d : Nat) (ys : List Int) (w : World) (lo hi : Nat) (h : Ints w lo hi A xs) (hh : hi ≤ w.heap.size) (hl : xs.length ≤ 1152921504606846976)
    (lo' hi' : Nat) (h' : Ints w lo' hi' D ys) (hh' : hi' ≤ w.heap.size) (hl' : ys.length ≤ 1152921504606846976) :
    Calls Try.prog 30 #[.agg #[.int .i64 E, .slice A xs.length c], .slice D ys.length d] w (RetInts w (wholeAw E xs ys)) := by
  by_cases hok : awardsB E xs ys = true
  · have e := specWholeAwards_yes E A c xs D d ys w lo hi h hh hl lo' hi' h' hh' hl' hok
    have e2 : wholeAw E xs ys = wholeRow 48 E ys := if_pos hok
    rw [e2]; exact e
  · have e := specWholeAwards_no E A c xs D d ys w lo hi h hh hl lo' hi' h' hh' hl' (by simpa using hok)
    have e2 : wholeAw E xs ys = [] := if_neg hok
    rw [e2]; exact e
theorem specWholeShares_any (E : Int) (A : Option Addr) (c : Nat) (xs : List Int) (w : World) (lo hi : Nat) (h : Ints w lo hi A xs) (hh : hi ≤ w.heap.size) (hl : xs.length ≤ 1152921504606846976) :
    Calls Try.prog 34 #[.agg #[.int .i64 E, .slice A xs.length c]] w (RetInts w (wholeSh E xs)) := by
  by_cases hok : caseOkB E xs = true
  · have e := specWholeShares_yes E A c xs w lo hi h hh hl hok
    have e2 : wholeSh E xs = wholeRow (max 1 xs.sum) E (shareRow E xs) := if_pos hok
    rw [e2]; exact e
  · have e := specWholeShares_no E A c xs w lo hi h hh hl (by simpa using hok)
    have e2 : wholeSh E xs = [] := if_neg hok
    rw [e2]; exact e

end Go.Proofs.Ytdhbeodgebdjjaa
