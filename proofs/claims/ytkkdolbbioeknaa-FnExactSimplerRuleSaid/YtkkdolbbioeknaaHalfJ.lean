/-
  The program's functions of chapter 5 (HalfAwards, MidOk, HalfLevel, and their helpers); they make new memory only. No condition but a length that fits.
-/
import Derived.Test.YtkkdolbbioeknaaGrow
import Derived.Test.YtkkdolbbioeknaaHalfLaw
import Derived.BigQuiet
import Derived.Deep.Cut
namespace Go.Proofs.Ytkkdolbbioeknaa
open Go.RowKit

theorem halfP_getD (xs : List Int) (k : Nat) : (halfP xs).getD k 0 = 24 * xs.getD k 0 := by
  by_cases hk : k < xs.length
  · rw [getD_of_lt _ k (by rw [halfP_length]; exact hk), halfP_at xs k hk, getD_of_lt xs k hk]
  · simp only [List.getD, List.getElem?_eq_none (show (halfP xs).length ≤ k by rw [halfP_length]; omega), List.getElem?_eq_none (show xs.length ≤ k by omega)]; rfl
theorem small_getD {xs : List Int} (h : Small xs) (k : Nat) (hk : k < xs.length) : -1000000 ≤ xs.getD k 0 ∧ xs.getD k 0 ≤ 1000000 := by rw [getD_of_lt xs k hk]; exact small_at xs h k hk
theorem implOwed_is (E : Int) (A : Option Addr) (c : Nat) (xs : List Int) (w : World) (lo hi : Nat) (h : Ints w lo hi A xs) (hh : hi ≤ w.heap.size) (hok : caseOkB E xs = true) :
    Calls Try.prog 80 #[.agg #[.int .i64 E, .slice A xs.length c]] w fun e w' => e = .returned (.int .i64 xs.sum) ∧ Below w.heap.size w w' := by
  have e := implOwedOf_any E A c xs w lo hi h hh (by have e := caseOk_bd hok; omega)
  simpa [owedOf, hok] using e
theorem max_low {E : Int} {xs : List Int} (h : caseOkB E xs = true) : Lib.maxOf (lowAw E xs) = lowLv E xs :=
  maxOf_is (fun x hx => evenLev_ge x hx) (evenLev_in (by rw [halfP_length]; exact ((caseOk_iff E xs).1 h).1))

set_option maxRecDepth 10000 in
set_option maxHeartbeats 400000 in
theorem halfClaims_any (E : Int) (A : Option Addr) (c : Nat) (xs : List Int) (w : World) (lo hi : Nat) (h : Ints w lo hi A xs) (hh : hi ≤ w.heap.size) (hs : Small xs) :
    Calls Try.prog 58 #[.agg #[.int .i64 E, .slice A xs.length c]] w (RetInts w (halfP xs)) := by
  have hsl := hs.1
  have HV := Lib.hid (fun k hk => small_getD hs k hk)
  clear hs
  go_enter Try.func58, Try.ntmps58
  have o1_ := h.alloc (by first | omega | (simp; omega) | simp) (.cells #[.int .i64 E, .slice A xs.length c] 28)
  have B2_ := (Below.refl w.heap.size w).alloc (Nat.le_refl _) (.cells #[.int .i64 E, .slice A xs.length c] 28)
  have a3_ : (w.alloc (.cells #[.int .i64 E, .slice A xs.length c] 28)).cell? ⟨w.heap.size, 0, none⟩ = some (.int .i64 E) := by simp [go_sem]
  have a4_ : (w.alloc (.cells #[.int .i64 E, .slice A xs.length c] 28)).cell? ⟨w.heap.size, 1, none⟩ = some (.slice A xs.length c) := by simp [go_sem]
  go_upto_region 2 with (at_make; (refine make_gr (by rfl) _ _ (by rfl) (n := xs.length) (x := (xs.length : Int)) (by omega) (by rfl) (by rfl) (by omega) ?_; intro w5 G5_ hb6_))
  have G5_ : Grow w5 (w.heap.size + 1) xs.length (List.replicate xs.length 0) := by have e := G5_; simp only [hsz] at e; exact e
  have a8_ := (hb6_.cell (p := ⟨w.heap.size, _, none⟩) (by first | omega | (simp; omega) | simp)).trans a3_
  have a9_ := (hb6_.cell (p := ⟨w.heap.size, _, none⟩) (by first | omega | (simp; omega) | simp)).trans a4_
  have o10_ := o1_.below hb6_ (by first | omega | (simp; omega) | simp)
  have z11_ := hb6_.size
  try simp at z11_
  have B12_ := B2_.trans (hb6_.mono (by first | omega | (simp; omega) | simp))
  clear hb6_
  have l13_ := G5_.lt
  have HL14_ : Hid ((List.replicate xs.length 0).length = xs.length) := List.length_replicate
  go_wp2
  go_loopw [13] (fun i wr => ∃ k : Nat, i = .int .i64 k ∧ (k ≤ xs.length) ∧ Grow wr (w.heap.size + 1) xs.length (fillTo (halfP xs) k) ∧ Below w.heap.size w wr ∧ w5.heap.size ≤ wr.heap.size ∧ Ints wr (lo) (hi) A xs ∧ wr.cell? ⟨w.heap.size, 0, none⟩ = some (.int .i64 E) ∧ wr.cell? ⟨w.heap.size, 1, none⟩ = some (.slice A xs.length c)) (fun i _ => xs.length - (intOf i).toNat)
  case atStart => exact ⟨0, rfl, Nat.zero_le _, (by rw [fillTo_zero, halfP_length]; exact G5_), B12_, (by first | omega | (simp; omega) | simp), o10_, a8_, a9_⟩
  case round =>
    obtain ⟨k, rfl, hk, G16_, k17_, k18_, k19_, k20_, k21_⟩ := hrel
    obtain ⟨w15, rfl⟩ : ∃ x, x = wr := ⟨_, rfl⟩
    have HL22_ : Hid ((fillTo (halfP xs) k).length = xs.length) := (by show _ = _; rw [fillTo_length _ _ (by rw [halfP_length]; omega), halfP_length])
    have l23_ := G16_.lt
    by_cases hlt0 : k < xs.length
    · obtain ⟨b24_, f25_, rfl, _, b24_h, -⟩ := k19_ (by omega)
      have c26_ : w15.cell? ⟨b24_, f25_ + k, none⟩ = some (.int .i64 (xs.getD k 0)) := k19_.at2 k (by first | omega | (simp; omega) | simp)
      have c26_i : (k : Int) < (xs.length : Int) := by omega
      have c26_j : (0 : Int) ≤ (k : Int) := by omega
      have v27_g := (HV.out k (by omega) : -1000000 ≤ xs.getD k 0 ∧ xs.getD k 0 ≤ 1000000)
      obtain ⟨v27_, hv27_⟩ : ∃ v, v = xs.getD k 0 := ⟨_, rfl⟩
      rw [← hv27_] at c26_ v27_g
      have Hv27_ := Lib.hid hv27_
      clear hv27_
      obtain ⟨v27_g1, v27_g2⟩ := v27_g
      have c29_ := G16_.at_ k (by rw [fillTo_length _ _ (by rw [halfP_length]; omega), halfP_length]; omega)
      have c29_f := G16_.soft k (by rw [fillTo_length _ _ (by rw [halfP_length]; omega), halfP_length]; omega)
      have c29_i : (k : Int) < (xs.length : Int) := by omega
      have c29_j : (0 : Int) ≤ (k : Int) := by omega
      have hC28_ := Chg.setCell (lo := (w.heap.size + 1)) (hi := (w.heap.size + 1) + 1) w15 (p := ⟨(w.heap.size + 1), k, none⟩) ⟨Nat.le_refl _, Nat.lt_succ_self _⟩ (.int .i64 (24 * v27_))
      have G30_ := G16_.store k (24 * v27_)
      have a31_ := (hC28_.cell (p := ⟨w.heap.size, _, none⟩) (by first | omega | (simp; omega) | simp) (by first | omega | (simp; omega))).trans k20_
      have a32_ := (hC28_.cell (p := ⟨w.heap.size, _, none⟩) (by first | omega | (simp; omega) | simp) (by first | omega | (simp; omega))).trans k21_
      have o33_ := k19_.chg hC28_ (by first | omega | (simp; omega) | simp) (by omega)
      have z34_ := hC28_.size
      try simp at z34_
      have B35_ := k17_.trans (hC28_.below (by omega) (by first | omega | (simp; omega) | simp))
      clear hC28_
      go_wp2
      go_roundw
      case rel => exact ⟨k + 1, by go_num, by omega, (by rw [← fillTo_set (halfP xs) k (by rw [halfP_length]; omega), halfP_at xs k (by omega), ← getD_of_lt xs k (by omega), ← Hv27_.out]; exact G30_), B35_, (by first | omega | (simp; omega) | simp), o33_, a31_, a32_⟩
      case measure => simp [intOf] <;> omega
    · obtain rfl : k = xs.length := by omega
      have hfa := fillTo_all (halfP xs)
      rw [halfP_length] at hfa
      rw [hfa] at G16_
      go_wp2
      go_ret
      (refine retInts_grow G16_ (by omega) ?_ k17_; rw [halfP_length])

set_option maxRecDepth 10000 in
set_option maxHeartbeats 400000 in
theorem upToHalf_yes (E : Int) (A : Option Addr) (c : Nat) (xs : List Int) (w : World) (lo hi : Nat) (h : Ints w lo hi A xs) (hh : hi ≤ w.heap.size) (hok : caseOkB E xs = true) (hE : 2 * E ≤ xs.sum) :
    Calls Try.prog 57 #[.agg #[.int .i64 E, .slice A xs.length c]] w fun e w' => e = .returned (.bool true) ∧ Below w.heap.size w w' := by
  have hbd := caseOk_bd hok
  have HO := Lib.hid hok
  have HE := Lib.hid hE
  clear hok hE
  go_enter Try.func57, Try.ntmps57
  have o1_ := h.alloc (by first | omega | (simp; omega) | simp) (.cells #[.int .i64 E, .slice A xs.length c] 28)
  have B2_ := (Below.refl w.heap.size w).alloc (Nat.le_refl _) (.cells #[.int .i64 E, .slice A xs.length c] 28)
  have a3_ : (w.alloc (.cells #[.int .i64 E, .slice A xs.length c] 28)).cell? ⟨w.heap.size, 0, none⟩ = some (.int .i64 E) := by simp [go_sem]
  have a4_ : (w.alloc (.cells #[.int .i64 E, .slice A xs.length c] 28)).cell? ⟨w.heap.size, 1, none⟩ = some (.slice A xs.length c) := by simp [go_sem]
  obtain ⟨v5_, hv5_⟩ : ∃ v, xs.sum = v := ⟨_, rfl⟩
  have Hv5_ := Lib.hid hv5_
  clear hv5_
  have hw6_ : IntKind.i64.wrap (2 * E) = (2 * E) := IntWalk.i64_in _ (by omega)
  have g10_ : w.heap.size < (w.alloc (.cells #[.int .i64 E, .slice A xs.length c] 28)).heap.size := (by first | omega | (simp; omega) | simp)
  have g11_ : hi ≤ (w.alloc (.cells #[.int .i64 E, .slice A xs.length c] 28)).heap.size := (by first | omega | (simp; omega) | simp)
  have g12_ : w.heap.size ≤ (w.alloc (.cells #[.int .i64 E, .slice A xs.length c] 28)).heap.size := (by first | omega | (simp; omega) | simp)
  go_wp2_with fail
  refine wp_region_held_drew (S := (fun w' : World => Below w.heap.size w w' ∧ w.heap.size + 1 ≤ w'.heap.size ∧ Ints w' (lo) (hi) A xs ∧ w'.cell? ⟨w.heap.size, 0, none⟩ = some (.int .i64 E) ∧ w'.cell? ⟨w.heap.size, 1, none⟩ = some (.slice A xs.length c) ∧ (w.alloc (.cells #[.int .i64 E, .slice A xs.length c] 28)).heap.size ≤ w'.heap.size)) (by kernel_rfl) ⟨B2_.drew, by exact (by first | omega | (simp; omega) | simp), o1_, a3_, a4_, Nat.le_refl _⟩ (fun hHeld => ?_)
  refine wpAnyH_take (i := 0) (oi := ?oi1) (v := ?vv1) ?hi1 ?hs1 ?hf1 ?ha1 ?hq1 ?hy1 hHeld ?hr1
  case hi1 => (simp only [List.getElem?_toArray, List.getElem?_cons_zero]; exact rfl)
  case hs1 => kernel_rfl
  case hf1 => kernel_rfl
  case ha1 => kernel_rfl
  case hq1 => exact fun _ _ _ h => h
  case hy1 =>
    refine Or.inl ⟨by rfl, ?_⟩
    intro w' hSw
    try dsimp only at hSw
    go_simp
    first | done | with_reducible rfl
  simp only [Act.put, List.setIfInBounds_toArray, List.set_cons_succ, List.set_cons_zero]
  refine wpAnyH_take (i := 1) (oi := ?oi2) (v := ?vv2) ?hi2 ?hs2 ?hf2 ?ha2 ?hq2 ?hy2 hHeld ?hr2
  case hi2 => (simp only [List.getElem?_toArray, List.getElem?_cons_succ, List.getElem?_cons_zero]; exact rfl)
  case hs2 => kernel_rfl
  case hf2 => kernel_rfl
  case ha2 => kernel_rfl
  case hq2 => exact fun _ _ _ h => h
  case hy2 =>
    refine Or.inl ⟨by rfl, ?_⟩
    intro w' hSw
    try dsimp only at hSw
    go_simp
    first | done | with_reducible rfl
  simp only [Act.put, List.setIfInBounds_toArray, List.set_cons_succ, List.set_cons_zero]
  refine wpAnyH_take (i := 2) (oi := ?oi3) (v := ?vv3) ?hi3 ?hs3 ?hf3 ?ha3 ?hq3 ?hy3 hHeld ?hr3
  case hi3 => (simp only [List.getElem?_toArray, List.getElem?_cons_succ, List.getElem?_cons_zero]; exact rfl)
  case hs3 => kernel_rfl
  case hf3 => kernel_rfl
  case ha3 => kernel_rfl
  case hq3 => exact fun _ _ _ h => h
  case hy3 =>
    refine Or.inl ⟨by rfl, ?_⟩
    intro w' hSw
    try dsimp only at hSw
    go_simp
    first | done | with_reducible rfl
  simp only [Act.put, List.setIfInBounds_toArray, List.set_cons_succ, List.set_cons_zero]
  refine wpAnyH_take (i := 3) (oi := ?oi4) (v := ?vv4) ?hi4 ?hs4 ?hf4 ?ha4 ?hq4 ?hy4 hHeld ?hr4
  case hi4 => (simp only [List.getElem?_toArray, List.getElem?_cons_succ, List.getElem?_cons_zero]; exact rfl)
  case hs4 => kernel_rfl
  case hf4 => kernel_rfl
  case ha4 => kernel_rfl
  case hq4 => exact fun _ _ _ h => h
  case hy4 =>
    refine Or.inl ⟨by rfl, ?_⟩
    intro w' hSw
    try dsimp only at hSw
    go_simp
    first | done | with_reducible rfl
  simp only [Act.put, List.setIfInBounds_toArray, List.set_cons_succ, List.set_cons_zero]
  refine wpAnyH_ready (rs := [4]) (by kernel_rfl) (by simp) ?_
  refine AllReadyH.cons rfl (fun K hK => ?_) AllReadyH.nil
  go_simp
  go_at_call 80
  obtain ⟨BB, zz, k7_, k8_, k9_, zw⟩ := hHeld
  (with_reducible refine (below_is (implOwed_is E A c xs _ _ _ k7_ (by first | omega | (simp; omega) | simp) HO.out) (congrArg (Value.int .i64) Hv5_.out)).mono ?_)
  rintro e w13 ⟨rfl, hb9⟩
  refine hK.out _ _ ⟨BB.trans (hb9.mono (by omega)), Nat.le_trans zz hb9.size, k7_.below hb9 (by omega), (hb9.cell (p := ⟨w.heap.size, 0, none⟩) (by show w.heap.size < _; omega)).trans k8_, (hb9.cell (p := ⟨w.heap.size, 1, none⟩) (by show w.heap.size < _; omega)).trans k9_, Nat.le_trans zw hb9.size⟩ (fun hHeld => ?_)
  clear hb9 zw k9_ k8_ k7_ zz BB
  clear hK K
  try simp only [Act.put, List.setIfInBounds_toArray, List.set_cons_zero, List.set_cons_succ]
  refine wpAnyH_take (i := 5) (oi := ?oi5) (v := ?vv5) ?hi5 ?hs5 ?hf5 ?ha5 ?hq5 ?hy5 hHeld ?hr5
  case hi5 => (simp only [List.getElem?_toArray, List.getElem?_cons_succ, List.getElem?_cons_zero]; exact rfl)
  case hs5 => kernel_rfl
  case hf5 => kernel_rfl
  case ha5 => kernel_rfl
  case hq5 => exact fun _ _ _ h => h
  case hy5 =>
    refine Or.inl ⟨by rfl, ?_⟩
    intro w' hSw
    try dsimp only at hSw
    go_simp
    first | done | with_reducible rfl
  simp only [Act.put, List.setIfInBounds_toArray, List.set_cons_succ, List.set_cons_zero]
  refine wpAnyH_take (i := 6) (oi := ?oi6) (v := ?vv6) ?hi6 ?hs6 ?hf6 ?ha6 ?hq6 ?hy6 hHeld ?hr6
  case hi6 => (simp only [List.getElem?_toArray, List.getElem?_cons_succ, List.getElem?_cons_zero]; exact rfl)
  case hs6 => kernel_rfl
  case hf6 => kernel_rfl
  case ha6 => kernel_rfl
  case hq6 => exact fun _ _ _ h => h
  case hy6 =>
    refine Or.inl ⟨by rfl, ?_⟩
    intro w' hSw
    try dsimp only at hSw
    go_simp
    first | done | with_reducible rfl
  simp only [Act.put, List.setIfInBounds_toArray, List.set_cons_succ, List.set_cons_zero]
  refine wpAnyH_done (by kernel_rfl) ?_ _
  obtain ⟨BB, zz, k7_, k8_, k9_, zw⟩ := hHeld
  clear hw6_
  have k14_ := BB
  clear BB
  have k15_ := zz
  clear zz
  have k16_ := zw
  clear zw
  by_cases h17_ : (2 * E) ≤ v5_
  · have h17_d : decide ((2 * E) ≤ v5_) = true := decide_eq_true h17_
    go_wp2
    go_ret
    exact ⟨ret_bool (by first | exact (by rfl) | exact (decide_eq_true (by omega)).trans (by rfl)), k14_⟩
  · have h17_d : decide ((2 * E) ≤ v5_) = false := decide_eq_false h17_
    go_wp2
    go_ret
    exact absurd h17_ (by have e1 := HE.out; have e2 := Hv5_.out; omega)

set_option maxRecDepth 10000 in
set_option maxHeartbeats 400000 in
theorem upToHalf_no (E : Int) (A : Option Addr) (c : Nat) (xs : List Int) (w : World) (lo hi : Nat) (h : Ints w lo hi A xs) (hh : hi ≤ w.heap.size) (hok : caseOkB E xs = true) (hE : ¬ 2 * E ≤ xs.sum) :
    Calls Try.prog 57 #[.agg #[.int .i64 E, .slice A xs.length c]] w fun e w' => e = .returned (.bool false) ∧ Below w.heap.size w w' := by
  have hbd := caseOk_bd hok
  have HO := Lib.hid hok
  have HE := Lib.hid hE
  clear hok hE
  go_enter Try.func57, Try.ntmps57
  have o1_ := h.alloc (by first | omega | (simp; omega) | simp) (.cells #[.int .i64 E, .slice A xs.length c] 28)
  have B2_ := (Below.refl w.heap.size w).alloc (Nat.le_refl _) (.cells #[.int .i64 E, .slice A xs.length c] 28)
  have a3_ : (w.alloc (.cells #[.int .i64 E, .slice A xs.length c] 28)).cell? ⟨w.heap.size, 0, none⟩ = some (.int .i64 E) := by simp [go_sem]
  have a4_ : (w.alloc (.cells #[.int .i64 E, .slice A xs.length c] 28)).cell? ⟨w.heap.size, 1, none⟩ = some (.slice A xs.length c) := by simp [go_sem]
  obtain ⟨v5_, hv5_⟩ : ∃ v, xs.sum = v := ⟨_, rfl⟩
  have Hv5_ := Lib.hid hv5_
  clear hv5_
  have hw6_ : IntKind.i64.wrap (2 * E) = (2 * E) := IntWalk.i64_in _ (by omega)
  have g10_ : w.heap.size < (w.alloc (.cells #[.int .i64 E, .slice A xs.length c] 28)).heap.size := (by first | omega | (simp; omega) | simp)
  have g11_ : hi ≤ (w.alloc (.cells #[.int .i64 E, .slice A xs.length c] 28)).heap.size := (by first | omega | (simp; omega) | simp)
  have g12_ : w.heap.size ≤ (w.alloc (.cells #[.int .i64 E, .slice A xs.length c] 28)).heap.size := (by first | omega | (simp; omega) | simp)
  go_wp2_with fail
  refine wp_region_held_drew (S := (fun w' : World => Below w.heap.size w w' ∧ w.heap.size + 1 ≤ w'.heap.size ∧ Ints w' (lo) (hi) A xs ∧ w'.cell? ⟨w.heap.size, 0, none⟩ = some (.int .i64 E) ∧ w'.cell? ⟨w.heap.size, 1, none⟩ = some (.slice A xs.length c) ∧ (w.alloc (.cells #[.int .i64 E, .slice A xs.length c] 28)).heap.size ≤ w'.heap.size)) (by kernel_rfl) ⟨B2_.drew, by exact (by first | omega | (simp; omega) | simp), o1_, a3_, a4_, Nat.le_refl _⟩ (fun hHeld => ?_)
  refine wpAnyH_take (i := 0) (oi := ?oi1) (v := ?vv1) ?hi1 ?hs1 ?hf1 ?ha1 ?hq1 ?hy1 hHeld ?hr1
  case hi1 => (simp only [List.getElem?_toArray, List.getElem?_cons_zero]; exact rfl)
  case hs1 => kernel_rfl
  case hf1 => kernel_rfl
  case ha1 => kernel_rfl
  case hq1 => exact fun _ _ _ h => h
  case hy1 =>
    refine Or.inl ⟨by rfl, ?_⟩
    intro w' hSw
    try dsimp only at hSw
    go_simp
    first | done | with_reducible rfl
  simp only [Act.put, List.setIfInBounds_toArray, List.set_cons_succ, List.set_cons_zero]
  refine wpAnyH_take (i := 1) (oi := ?oi2) (v := ?vv2) ?hi2 ?hs2 ?hf2 ?ha2 ?hq2 ?hy2 hHeld ?hr2
  case hi2 => (simp only [List.getElem?_toArray, List.getElem?_cons_succ, List.getElem?_cons_zero]; exact rfl)
  case hs2 => kernel_rfl
  case hf2 => kernel_rfl
  case ha2 => kernel_rfl
  case hq2 => exact fun _ _ _ h => h
  case hy2 =>
    refine Or.inl ⟨by rfl, ?_⟩
    intro w' hSw
    try dsimp only at hSw
    go_simp
    first | done | with_reducible rfl
  simp only [Act.put, List.setIfInBounds_toArray, List.set_cons_succ, List.set_cons_zero]
  refine wpAnyH_take (i := 2) (oi := ?oi3) (v := ?vv3) ?hi3 ?hs3 ?hf3 ?ha3 ?hq3 ?hy3 hHeld ?hr3
  case hi3 => (simp only [List.getElem?_toArray, List.getElem?_cons_succ, List.getElem?_cons_zero]; exact rfl)
  case hs3 => kernel_rfl
  case hf3 => kernel_rfl
  case ha3 => kernel_rfl
  case hq3 => exact fun _ _ _ h => h
  case hy3 =>
    refine Or.inl ⟨by rfl, ?_⟩
    intro w' hSw
    try dsimp only at hSw
    go_simp
    first | done | with_reducible rfl
  simp only [Act.put, List.setIfInBounds_toArray, List.set_cons_succ, List.set_cons_zero]
  refine wpAnyH_take (i := 3) (oi := ?oi4) (v := ?vv4) ?hi4 ?hs4 ?hf4 ?ha4 ?hq4 ?hy4 hHeld ?hr4
  case hi4 => (simp only [List.getElem?_toArray, List.getElem?_cons_succ, List.getElem?_cons_zero]; exact rfl)
  case hs4 => kernel_rfl
  case hf4 => kernel_rfl
  case ha4 => kernel_rfl
  case hq4 => exact fun _ _ _ h => h
  case hy4 =>
    refine Or.inl ⟨by rfl, ?_⟩
    intro w' hSw
    try dsimp only at hSw
    go_simp
    first | done | with_reducible rfl
  simp only [Act.put, List.setIfInBounds_toArray, List.set_cons_succ, List.set_cons_zero]
  refine wpAnyH_ready (rs := [4]) (by kernel_rfl) (by simp) ?_
  refine AllReadyH.cons rfl (fun K hK => ?_) AllReadyH.nil
  go_simp
  go_at_call 80
  obtain ⟨BB, zz, k7_, k8_, k9_, zw⟩ := hHeld
  (with_reducible refine (below_is (implOwed_is E A c xs _ _ _ k7_ (by first | omega | (simp; omega) | simp) HO.out) (congrArg (Value.int .i64) Hv5_.out)).mono ?_)
  rintro e w13 ⟨rfl, hb9⟩
  refine hK.out _ _ ⟨BB.trans (hb9.mono (by omega)), Nat.le_trans zz hb9.size, k7_.below hb9 (by omega), (hb9.cell (p := ⟨w.heap.size, 0, none⟩) (by show w.heap.size < _; omega)).trans k8_, (hb9.cell (p := ⟨w.heap.size, 1, none⟩) (by show w.heap.size < _; omega)).trans k9_, Nat.le_trans zw hb9.size⟩ (fun hHeld => ?_)
  clear hb9 zw k9_ k8_ k7_ zz BB
  clear hK K
  try simp only [Act.put, List.setIfInBounds_toArray, List.set_cons_zero, List.set_cons_succ]
  refine wpAnyH_take (i := 5) (oi := ?oi5) (v := ?vv5) ?hi5 ?hs5 ?hf5 ?ha5 ?hq5 ?hy5 hHeld ?hr5
  case hi5 => (simp only [List.getElem?_toArray, List.getElem?_cons_succ, List.getElem?_cons_zero]; exact rfl)
  case hs5 => kernel_rfl
  case hf5 => kernel_rfl
  case ha5 => kernel_rfl
  case hq5 => exact fun _ _ _ h => h
  case hy5 =>
    refine Or.inl ⟨by rfl, ?_⟩
    intro w' hSw
    try dsimp only at hSw
    go_simp
    first | done | with_reducible rfl
  simp only [Act.put, List.setIfInBounds_toArray, List.set_cons_succ, List.set_cons_zero]
  refine wpAnyH_take (i := 6) (oi := ?oi6) (v := ?vv6) ?hi6 ?hs6 ?hf6 ?ha6 ?hq6 ?hy6 hHeld ?hr6
  case hi6 => (simp only [List.getElem?_toArray, List.getElem?_cons_succ, List.getElem?_cons_zero]; exact rfl)
  case hs6 => kernel_rfl
  case hf6 => kernel_rfl
  case ha6 => kernel_rfl
  case hq6 => exact fun _ _ _ h => h
  case hy6 =>
    refine Or.inl ⟨by rfl, ?_⟩
    intro w' hSw
    try dsimp only at hSw
    go_simp
    first | done | with_reducible rfl
  simp only [Act.put, List.setIfInBounds_toArray, List.set_cons_succ, List.set_cons_zero]
  refine wpAnyH_done (by kernel_rfl) ?_ _
  obtain ⟨BB, zz, k7_, k8_, k9_, zw⟩ := hHeld
  clear hw6_
  have k14_ := BB
  clear BB
  have k15_ := zz
  clear zz
  have k16_ := zw
  clear zw
  by_cases h17_ : (2 * E) ≤ v5_
  · have h17_d : decide ((2 * E) ≤ v5_) = true := decide_eq_true h17_
    go_wp2
    go_ret
    exact absurd h17_ (by have e1 := HE.out; have e2 := Hv5_.out; omega)
  · have h17_d : decide ((2 * E) ≤ v5_) = false := decide_eq_false h17_
    go_wp2
    go_ret
    exact ⟨ret_bool (by first | exact (by rfl) | exact (decide_eq_false (by omega)).trans (by rfl)), k14_⟩

set_option maxRecDepth 10000 in
set_option maxHeartbeats 400000 in
theorem implHalfAwards_low (E : Int) (A : Option Addr) (c : Nat) (xs : List Int) (w : World) (lo hi : Nat) (h : Ints w lo hi A xs) (hh : hi ≤ w.heap.size) (hok : caseOkB E xs = true) (hE : 2 * E ≤ xs.sum) :
    Calls Try.prog 37 #[.agg #[.int .i64 E, .slice A xs.length c]] w (RetInts w (lowAw E xs)) := by
  have HEB : Hid (evenB (halfP xs) (48 * E) = true) := (evenB_iff _ _).2 ⟨half_part hok, ⟨by have e := caseOk_bd hok; omega, by rw [halfP_sum]; omega⟩, low_whole hok⟩
  have HE := Lib.hid hE
  clear hE
  have hbd := caseOk_bd hok
  have HO := Lib.hid hok
  have HSM := Lib.hid (caseOk_small hok)
  clear hok
  go_enter Try.func37, Try.ntmps37
  have o1_ := h.alloc (by first | omega | (simp; omega) | simp) (.cells #[.int .i64 E, .slice A xs.length c] 28)
  have B2_ := (Below.refl w.heap.size w).alloc (Nat.le_refl _) (.cells #[.int .i64 E, .slice A xs.length c] 28)
  have a3_ : (w.alloc (.cells #[.int .i64 E, .slice A xs.length c] 28)).cell? ⟨w.heap.size, 0, none⟩ = some (.int .i64 E) := by simp [go_sem]
  have a4_ : (w.alloc (.cells #[.int .i64 E, .slice A xs.length c] 28)).cell? ⟨w.heap.size, 1, none⟩ = some (.slice A xs.length c) := by simp [go_sem]
  go_wp2_with fail
  refine (implCaseOk_any E A c xs _ _ _ o1_ (by first | omega | (simp; omega) | simp) (by omega)).mono ?_
  rintro e w5 ⟨he, hb5_⟩
  rw [HO.out] at he
  subst he
  have a6_ := (hb5_.cell (p := ⟨w.heap.size, _, none⟩) (by first | omega | (simp; omega) | simp)).trans a3_
  have a7_ := (hb5_.cell (p := ⟨w.heap.size, _, none⟩) (by first | omega | (simp; omega) | simp)).trans a4_
  have o8_ := o1_.below hb5_ (by first | omega | (simp; omega) | simp)
  have z9_ := hb5_.size
  try simp at z9_
  have B10_ := B2_.trans (hb5_.mono (by first | omega | (simp; omega) | simp))
  clear hb5_
  go_wp2_with fail
  refine (upToHalf_yes E A c xs _ _ _ o8_ (by first | omega | (simp; omega) | simp) HO.out (by have e := HE.out; omega)).mono ?_
  rintro e w11 ⟨rfl, hb11_⟩
  have a12_ := (hb11_.cell (p := ⟨w.heap.size, _, none⟩) (by first | omega | (simp; omega) | simp)).trans a6_
  have a13_ := (hb11_.cell (p := ⟨w.heap.size, _, none⟩) (by first | omega | (simp; omega) | simp)).trans a7_
  have o14_ := o8_.below hb11_ (by first | omega | (simp; omega) | simp)
  have z15_ := hb11_.size
  have B16_ := B10_.trans (hb11_.mono (by first | omega | (simp; omega) | simp))
  clear hb11_
  have hw23_ : IntKind.i64.wrap (48 * E) = (48 * E) := IntWalk.i64_in _ (by omega)
  have g27_ : w.heap.size < w11.heap.size := (by first | omega | (simp; omega) | simp)
  have g28_ : hi ≤ w11.heap.size := (by first | omega | (simp; omega) | simp)
  have g29_ : w.heap.size ≤ w11.heap.size := (by first | omega | (simp; omega) | simp)
  go_wp2_with fail
  refine wp_region_held_drew (S := (fun w' : World => Below w.heap.size w w' ∧ w11.heap.size ≤ w'.heap.size ∧ Ints w' (lo) (hi) A xs ∧ w'.cell? ⟨w.heap.size, 0, none⟩ = some (.int .i64 E) ∧ w'.cell? ⟨w.heap.size, 1, none⟩ = some (.slice A xs.length c) ∧ w11.heap.size ≤ w'.heap.size)) (by kernel_rfl) ⟨B16_.drew, by exact (by first | omega | (simp; omega) | simp), o14_, a12_, a13_, Nat.le_refl _⟩ (fun hHeld => ?_)
  refine wpAnyH_take (i := 0) (oi := ?oi1) (v := ?vv1) ?hi1 ?hs1 ?hf1 ?ha1 ?hq1 ?hy1 hHeld ?hr1
  case hi1 => (simp only [List.getElem?_toArray, List.getElem?_cons_zero]; exact rfl)
  case hs1 => kernel_rfl
  case hf1 => kernel_rfl
  case ha1 => kernel_rfl
  case hq1 => exact fun _ _ _ h => h
  case hy1 =>
    refine Or.inl ⟨by rfl, ?_⟩
    intro w' hSw
    try dsimp only at hSw
    go_simp
    first | done | with_reducible rfl
  simp only [Act.put, List.setIfInBounds_toArray, List.set_cons_succ, List.set_cons_zero]
  refine wpAnyH_take (i := 2) (oi := ?oi2) (v := ?vv2) ?hi2 ?hs2 ?hf2 ?ha2 ?hq2 ?hy2 hHeld ?hr2
  case hi2 => (simp only [List.getElem?_toArray, List.getElem?_cons_succ, List.getElem?_cons_zero]; exact rfl)
  case hs2 => kernel_rfl
  case hf2 => kernel_rfl
  case ha2 => kernel_rfl
  case hq2 => exact fun _ _ _ h => h
  case hy2 =>
    refine Or.inl ⟨by rfl, ?_⟩
    intro w' hSw
    try dsimp only at hSw
    go_simp
    first | done | with_reducible rfl
  simp only [Act.put, List.setIfInBounds_toArray, List.set_cons_succ, List.set_cons_zero]
  refine wpAnyH_take (i := 3) (oi := ?oi3) (v := ?vv3) ?hi3 ?hs3 ?hf3 ?ha3 ?hq3 ?hy3 hHeld ?hr3
  case hi3 => (simp only [List.getElem?_toArray, List.getElem?_cons_succ, List.getElem?_cons_zero]; exact rfl)
  case hs3 => kernel_rfl
  case hf3 => kernel_rfl
  case ha3 => kernel_rfl
  case hq3 => exact fun _ _ _ h => h
  case hy3 =>
    refine Or.inl ⟨by rfl, ?_⟩
    intro w' hSw
    try dsimp only at hSw
    go_simp
    first | done | with_reducible rfl
  simp only [Act.put, List.setIfInBounds_toArray, List.set_cons_succ, List.set_cons_zero]
  refine wpAnyH_take (i := 4) (oi := ?oi4) (v := ?vv4) ?hi4 ?hs4 ?hf4 ?ha4 ?hq4 ?hy4 hHeld ?hr4
  case hi4 => (simp only [List.getElem?_toArray, List.getElem?_cons_succ, List.getElem?_cons_zero]; exact rfl)
  case hs4 => kernel_rfl
  case hf4 => kernel_rfl
  case ha4 => kernel_rfl
  case hq4 => exact fun _ _ _ h => h
  case hy4 =>
    refine Or.inl ⟨by rfl, ?_⟩
    intro w' hSw
    try dsimp only at hSw
    go_simp
    first | done | with_reducible rfl
  simp only [Act.put, List.setIfInBounds_toArray, List.set_cons_succ, List.set_cons_zero]
  refine wpAnyH_ready (rs := [1]) (by kernel_rfl) (by simp) ?_
  refine AllReadyH.cons rfl (fun K hK => ?_) AllReadyH.nil
  go_simp
  go_at_call 58
  obtain ⟨BB, zz, k24_, k25_, k26_, zw⟩ := hHeld
  (with_reducible refine (halfClaims_any E A c xs _ _ _ k24_ (by first | omega | (simp; omega) | simp) HSM.out).mono ?_)
  rintro e w30 ⟨A17_, c18_, rfl, ho19_, hb9⟩
  have ho19_ := ho19_.more (lo' := w11.heap.size) (by omega) (Nat.le_refl _)
  refine hK.out _ _ ⟨BB.trans (hb9.mono (by omega)), Nat.le_trans zz hb9.size, k24_.below hb9 (by omega), (hb9.cell (p := ⟨w.heap.size, 0, none⟩) (by show w.heap.size < _; omega)).trans k25_, (hb9.cell (p := ⟨w.heap.size, 1, none⟩) (by show w.heap.size < _; omega)).trans k26_, Nat.le_trans zw hb9.size⟩ (fun hHeld => ?_)
  clear hb9 zw k26_ k25_ k24_ zz BB
  clear hK K
  try simp only [Act.put, List.setIfInBounds_toArray, List.set_cons_zero, List.set_cons_succ]
  refine wpAnyH_ready (rs := [5]) (by kernel_rfl) (by simp) ?_
  refine AllReadyH.cons rfl (fun K hK => ?_) AllReadyH.nil
  go_simp
  go_at_call 53
  obtain ⟨BB, zz, k24_, k25_, k26_, zw⟩ := hHeld
  (with_reducible refine (implEvenRow_yes A17_ c18_ (halfP xs) (48 * E) _ _ _ ho19_.ints (by first | omega | (simp; omega) | simp) HEB.out).mono ?_)
  rintro e w31 ⟨A20_, c21_, rfl, ho22_, hb9⟩
  have ho22_ := ho22_.more (lo' := w11.heap.size) (by omega) (Nat.le_refl _)
  have ho19_ := ho19_.below hb9 (Nat.le_refl _)
  have ho19_ := ho19_.more (Nat.le_refl _) hb9.size
  refine hK.out _ _ ⟨BB.trans (hb9.mono (by omega)), Nat.le_trans zz hb9.size, k24_.below hb9 (by omega), (hb9.cell (p := ⟨w.heap.size, 0, none⟩) (by show w.heap.size < _; omega)).trans k25_, (hb9.cell (p := ⟨w.heap.size, 1, none⟩) (by show w.heap.size < _; omega)).trans k26_, Nat.le_trans zw hb9.size⟩ (fun hHeld => ?_)
  clear hb9 zw k26_ k25_ k24_ zz BB
  clear hK K
  try simp only [Act.put, List.setIfInBounds_toArray, List.set_cons_zero, List.set_cons_succ]
  refine wpAnyH_take (i := 6) (oi := ?oi5) (v := ?vv5) ?hi5 ?hs5 ?hf5 ?ha5 ?hq5 ?hy5 hHeld ?hr5
  case hi5 => (simp only [List.getElem?_toArray, List.getElem?_cons_succ, List.getElem?_cons_zero]; exact rfl)
  case hs5 => kernel_rfl
  case hf5 => kernel_rfl
  case ha5 => kernel_rfl
  case hq5 => exact fun _ _ _ h => h
  case hy5 =>
    refine Or.inl ⟨by rfl, ?_⟩
    intro w' hSw
    try dsimp only at hSw
    go_simp
    first | done | with_reducible rfl
  simp only [Act.put, List.setIfInBounds_toArray, List.set_cons_succ, List.set_cons_zero]
  refine wpAnyH_take (i := 7) (oi := ?oi6) (v := ?vv6) ?hi6 ?hs6 ?hf6 ?ha6 ?hq6 ?hy6 hHeld ?hr6
  case hi6 => (simp only [List.getElem?_toArray, List.getElem?_cons_succ, List.getElem?_cons_zero]; exact rfl)
  case hs6 => kernel_rfl
  case hf6 => kernel_rfl
  case ha6 => kernel_rfl
  case hq6 => exact fun _ _ _ h => h
  case hy6 =>
    refine Or.inl ⟨by rfl, ?_⟩
    intro w' hSw
    try dsimp only at hSw
    go_simp
    first | done | with_reducible rfl
  simp only [Act.put, List.setIfInBounds_toArray, List.set_cons_succ, List.set_cons_zero]
  refine wpAnyH_take (i := 8) (oi := ?oi7) (v := ?vv7) ?hi7 ?hs7 ?hf7 ?ha7 ?hq7 ?hy7 hHeld ?hr7
  case hi7 => (simp only [List.getElem?_toArray, List.getElem?_cons_succ, List.getElem?_cons_zero]; exact rfl)
  case hs7 => kernel_rfl
  case hf7 => kernel_rfl
  case ha7 => kernel_rfl
  case hq7 => exact fun _ _ _ h => h
  case hy7 =>
    refine Or.inl ⟨by rfl, ?_⟩
    intro w' hSw
    try dsimp only at hSw
    go_simp
    first | done | with_reducible rfl
  simp only [Act.put, List.setIfInBounds_toArray, List.set_cons_succ, List.set_cons_zero]
  refine wpAnyH_take (i := 9) (oi := ?oi8) (v := ?vv8) ?hi8 ?hs8 ?hf8 ?ha8 ?hq8 ?hy8 hHeld ?hr8
  case hi8 => (simp only [List.getElem?_toArray, List.getElem?_cons_succ, List.getElem?_cons_zero]; exact rfl)
  case hs8 => kernel_rfl
  case hf8 => kernel_rfl
  case ha8 => kernel_rfl
  case hq8 => exact fun _ _ _ h => h
  case hy8 =>
    refine Or.inl ⟨by rfl, ?_⟩
    intro w' hSw
    try dsimp only at hSw
    go_simp
    first | done | with_reducible rfl
  simp only [Act.put, List.setIfInBounds_toArray, List.set_cons_succ, List.set_cons_zero]
  refine wpAnyH_take (i := 10) (oi := ?oi9) (v := ?vv9) ?hi9 ?hs9 ?hf9 ?ha9 ?hq9 ?hy9 hHeld ?hr9
  case hi9 => (simp only [List.getElem?_toArray, List.getElem?_cons_succ, List.getElem?_cons_zero]; exact rfl)
  case hs9 => kernel_rfl
  case hf9 => kernel_rfl
  case ha9 => kernel_rfl
  case hq9 => exact fun _ _ _ h => h
  case hy9 =>
    refine Or.inl ⟨by rfl, ?_⟩
    intro w' hSw
    try dsimp only at hSw
    go_simp
    first | done | with_reducible rfl
  simp only [Act.put, List.setIfInBounds_toArray, List.set_cons_succ, List.set_cons_zero]
  refine wpAnyH_done (by kernel_rfl) ?_ _
  obtain ⟨BB, zz, k24_, k25_, k26_, zw⟩ := hHeld
  clear hw23_
  have k32_ := BB
  clear BB
  have k33_ := zz
  clear zz
  have k34_ := zw
  clear zw
  go_wp2
  go_ret
  exact ⟨A20_, c21_, rfl, ho22_.more (by omega) (by omega), k32_⟩

set_option maxRecDepth 10000 in
set_option maxHeartbeats 400000 in
theorem implHalfAwards_high (E : Int) (A : Option Addr) (c : Nat) (xs : List Int) (w : World) (lo hi : Nat) (h : Ints w lo hi A xs) (hh : hi ≤ w.heap.size) (hok : caseOkB E xs = true) (hE : ¬ 2 * E ≤ xs.sum) :
    Calls Try.prog 37 #[.agg #[.int .i64 E, .slice A xs.length c]] w (RetInts w (lossesRow xs (lowAw (xs.sum - E) xs))) := by
  have HAW : Hid (awardsB (xs.sum - E) xs (lowAw (xs.sum - E) xs) = true) := (awardsB_iff _ _ _).2 (lowAw_aw (other_ok hok) (by omega))
  have HNE := Lib.hid hE
  clear hE
  have hbd := caseOk_bd hok
  have HO := Lib.hid hok
  have HSM := Lib.hid (caseOk_small hok)
  clear hok
  go_enter Try.func37, Try.ntmps37
  have o1_ := h.alloc (by first | omega | (simp; omega) | simp) (.cells #[.int .i64 E, .slice A xs.length c] 28)
  have B2_ := (Below.refl w.heap.size w).alloc (Nat.le_refl _) (.cells #[.int .i64 E, .slice A xs.length c] 28)
  have a3_ : (w.alloc (.cells #[.int .i64 E, .slice A xs.length c] 28)).cell? ⟨w.heap.size, 0, none⟩ = some (.int .i64 E) := by simp [go_sem]
  have a4_ : (w.alloc (.cells #[.int .i64 E, .slice A xs.length c] 28)).cell? ⟨w.heap.size, 1, none⟩ = some (.slice A xs.length c) := by simp [go_sem]
  go_wp2_with fail
  refine (implCaseOk_any E A c xs _ _ _ o1_ (by first | omega | (simp; omega) | simp) (by omega)).mono ?_
  rintro e w5 ⟨he, hb5_⟩
  rw [HO.out] at he
  subst he
  have a6_ := (hb5_.cell (p := ⟨w.heap.size, _, none⟩) (by first | omega | (simp; omega) | simp)).trans a3_
  have a7_ := (hb5_.cell (p := ⟨w.heap.size, _, none⟩) (by first | omega | (simp; omega) | simp)).trans a4_
  have o8_ := o1_.below hb5_ (by first | omega | (simp; omega) | simp)
  have z9_ := hb5_.size
  try simp at z9_
  have B10_ := B2_.trans (hb5_.mono (by first | omega | (simp; omega) | simp))
  clear hb5_
  go_wp2_with fail
  refine (upToHalf_no E A c xs _ _ _ o8_ (by first | omega | (simp; omega) | simp) HO.out (by have e := HNE.out; omega)).mono ?_
  rintro e w11 ⟨rfl, hb11_⟩
  have a12_ := (hb11_.cell (p := ⟨w.heap.size, _, none⟩) (by first | omega | (simp; omega) | simp)).trans a6_
  have a13_ := (hb11_.cell (p := ⟨w.heap.size, _, none⟩) (by first | omega | (simp; omega) | simp)).trans a7_
  have o14_ := o8_.below hb11_ (by first | omega | (simp; omega) | simp)
  have z15_ := hb11_.size
  have B16_ := B10_.trans (hb11_.mono (by first | omega | (simp; omega) | simp))
  clear hb11_
  go_wp2_with fail
  refine (implOtherCase_yes E A c xs _ _ _ o14_ (by first | omega | (simp; omega) | simp) HO.out).mono ?_
  rintro e w17 ⟨A18_, c19_, rfl, ho20_, hb17_⟩
  have a21_ := (hb17_.cell (p := ⟨w.heap.size, _, none⟩) (by first | omega | (simp; omega) | simp)).trans a12_
  have a22_ := (hb17_.cell (p := ⟨w.heap.size, _, none⟩) (by first | omega | (simp; omega) | simp)).trans a13_
  have o23_ := o14_.below hb17_ (by first | omega | (simp; omega) | simp)
  have z24_ := hb17_.size
  have B25_ := B16_.trans (hb17_.mono (by first | omega | (simp; omega) | simp))
  clear hb17_
  have o26_ := o23_.alloc (by first | omega | (simp; omega) | simp) (.cells #[.int .i64 (xs.sum - E), .slice A18_ xs.length c19_] 28)
  have o27_ := ho20_.alloc (by first | omega | (simp; omega) | simp) (.cells #[.int .i64 (xs.sum - E), .slice A18_ xs.length c19_] 28)
  have a28_ := cell_alloc (o := (.cells #[.int .i64 (xs.sum - E), .slice A18_ xs.length c19_] 28)) a21_ (by first | omega | (simp; omega) | simp)
  have a29_ := cell_alloc (o := (.cells #[.int .i64 (xs.sum - E), .slice A18_ xs.length c19_] 28)) a22_ (by first | omega | (simp; omega) | simp)
  have B30_ := B25_.alloc (by first | omega | (simp; omega) | simp) (.cells #[.int .i64 (xs.sum - E), .slice A18_ xs.length c19_] 28)
  have a31_ : (w17.alloc (.cells #[.int .i64 (xs.sum - E), .slice A18_ xs.length c19_] 28)).cell? ⟨w17.heap.size, 0, none⟩ = some (.int .i64 (xs.sum - E)) := by simp [go_sem]
  have a32_ : (w17.alloc (.cells #[.int .i64 (xs.sum - E), .slice A18_ xs.length c19_] 28)).cell? ⟨w17.heap.size, 1, none⟩ = some (.slice A18_ xs.length c19_) := by simp [go_sem]
  have g45_ : w.heap.size < (w17.alloc (.cells #[.int .i64 (xs.sum - E), .slice A18_ xs.length c19_] 28)).heap.size := (by first | omega | (simp; omega) | simp)
  have g46_ : w17.heap.size < (w17.alloc (.cells #[.int .i64 (xs.sum - E), .slice A18_ xs.length c19_] 28)).heap.size := (by first | omega | (simp; omega) | simp)
  have g47_ : hi ≤ (w17.alloc (.cells #[.int .i64 (xs.sum - E), .slice A18_ xs.length c19_] 28)).heap.size := (by first | omega | (simp; omega) | simp)
  have g48_ : w17.heap.size ≤ (w17.alloc (.cells #[.int .i64 (xs.sum - E), .slice A18_ xs.length c19_] 28)).heap.size := (by first | omega | (simp; omega) | simp)
  have g49_ : w.heap.size ≤ (w17.alloc (.cells #[.int .i64 (xs.sum - E), .slice A18_ xs.length c19_] 28)).heap.size := (by first | omega | (simp; omega) | simp)
  go_wp2_with fail
  refine wp_region_held_drew (S := (fun w' : World => Below w.heap.size w w' ∧ w17.heap.size + 1 ≤ w'.heap.size ∧ Ints w' (lo) (hi) A xs ∧ Own w' (w11.heap.size) (w17.heap.size) A18_ xs ∧ w'.cell? ⟨w.heap.size, 0, none⟩ = some (.int .i64 E) ∧ w'.cell? ⟨w.heap.size, 1, none⟩ = some (.slice A xs.length c) ∧ w'.cell? ⟨w17.heap.size, 0, none⟩ = some (.int .i64 (xs.sum - E)) ∧ w'.cell? ⟨w17.heap.size, 1, none⟩ = some (.slice A18_ xs.length c19_) ∧ (w17.alloc (.cells #[.int .i64 (xs.sum - E), .slice A18_ xs.length c19_] 28)).heap.size ≤ w'.heap.size)) (by kernel_rfl) ⟨B30_.drew, by exact (by first | omega | (simp; omega) | simp), o26_, o27_, a28_, a29_, a31_, a32_, Nat.le_refl _⟩ (fun hHeld => ?_)
  refine wpAnyH_take (i := 0) (oi := ?oi1) (v := ?vv1) ?hi1 ?hs1 ?hf1 ?ha1 ?hq1 ?hy1 hHeld ?hr1
  case hi1 => (simp only [List.getElem?_toArray, List.getElem?_cons_zero]; exact rfl)
  case hs1 => kernel_rfl
  case hf1 => kernel_rfl
  case ha1 => kernel_rfl
  case hq1 => exact fun _ _ _ h => h
  case hy1 =>
    refine Or.inl ⟨by rfl, ?_⟩
    intro w' hSw
    try dsimp only at hSw
    go_simp
    first | done | with_reducible rfl
  simp only [Act.put, List.setIfInBounds_toArray, List.set_cons_succ, List.set_cons_zero]
  refine wpAnyH_take (i := 1) (oi := ?oi2) (v := ?vv2) ?hi2 ?hs2 ?hf2 ?ha2 ?hq2 ?hy2 hHeld ?hr2
  case hi2 => (simp only [List.getElem?_toArray, List.getElem?_cons_succ, List.getElem?_cons_zero]; exact rfl)
  case hs2 => kernel_rfl
  case hf2 => kernel_rfl
  case ha2 => kernel_rfl
  case hq2 => exact fun _ _ _ h => h
  case hy2 =>
    refine Or.inl ⟨by rfl, ?_⟩
    intro w' hSw
    try dsimp only at hSw
    go_simp
    first | done | with_reducible rfl
  simp only [Act.put, List.setIfInBounds_toArray, List.set_cons_succ, List.set_cons_zero]
  refine wpAnyH_ready (rs := [2]) (by kernel_rfl) (by simp) ?_
  refine AllReadyH.cons rfl (fun K hK => ?_) AllReadyH.nil
  go_simp
  go_at_call 37
  obtain ⟨BB, zz, k39_, k40_, k41_, k42_, k43_, k44_, zw⟩ := hHeld
  (with_reducible refine (implHalfAwards_low (xs.sum - E) A18_ c19_ xs _ _ _ k40_.ints (by first | omega | (simp; omega) | simp) (other_ok HO.out) (by have e := HNE.out; omega)).mono ?_)
  rintro e w50 ⟨A33_, c34_, rfl, ho35_, hb9⟩
  have ho35_ := ho35_.more (lo' := w17.heap.size + 1) (by omega) (Nat.le_refl _)
  refine hK.out _ _ ⟨BB.trans (hb9.mono (by omega)), Nat.le_trans zz hb9.size, k39_.below hb9 (by omega), k40_.below hb9 (by omega), (hb9.cell (p := ⟨w.heap.size, 0, none⟩) (by show w.heap.size < _; omega)).trans k41_, (hb9.cell (p := ⟨w.heap.size, 1, none⟩) (by show w.heap.size < _; omega)).trans k42_, (hb9.cell (p := ⟨w17.heap.size, 0, none⟩) (by show w17.heap.size < _; omega)).trans k43_, (hb9.cell (p := ⟨w17.heap.size, 1, none⟩) (by show w17.heap.size < _; omega)).trans k44_, Nat.le_trans zw hb9.size⟩ (fun hHeld => ?_)
  clear hb9 zw k44_ k43_ k42_ k41_ k40_ k39_ zz BB
  clear hK K
  try simp only [Act.put, List.setIfInBounds_toArray, List.set_cons_zero, List.set_cons_succ]
  refine wpAnyH_ready (rs := [3]) (by kernel_rfl) (by simp) ?_
  refine AllReadyH.cons rfl (fun K hK => ?_) AllReadyH.nil
  go_simp
  go_at_call 56
  obtain ⟨BB, zz, k39_, k40_, k41_, k42_, k43_, k44_, zw⟩ := hHeld
  (with_reducible refine (implLossesOf_yes (xs.sum - E) A18_ c19_ xs A33_ c34_ (lowAw (xs.sum - E) xs) _ _ _ k40_.ints (by first | omega | (simp; omega) | simp) (by omega) _ _ ho35_.ints (by first | omega | (simp; omega) | simp) (by rw [lowAw_length]; omega) HAW.out).mono ?_)
  rintro e w51 ⟨A36_, c37_, rfl, ho38_, hb9⟩
  have ho38_ := ho38_.more (lo' := w17.heap.size + 1) (by omega) (Nat.le_refl _)
  have ho35_ := ho35_.below hb9 (Nat.le_refl _)
  have ho35_ := ho35_.more (Nat.le_refl _) hb9.size
  refine hK.out _ _ ⟨BB.trans (hb9.mono (by omega)), Nat.le_trans zz hb9.size, k39_.below hb9 (by omega), k40_.below hb9 (by omega), (hb9.cell (p := ⟨w.heap.size, 0, none⟩) (by show w.heap.size < _; omega)).trans k41_, (hb9.cell (p := ⟨w.heap.size, 1, none⟩) (by show w.heap.size < _; omega)).trans k42_, (hb9.cell (p := ⟨w17.heap.size, 0, none⟩) (by show w17.heap.size < _; omega)).trans k43_, (hb9.cell (p := ⟨w17.heap.size, 1, none⟩) (by show w17.heap.size < _; omega)).trans k44_, Nat.le_trans zw hb9.size⟩ (fun hHeld => ?_)
  clear hb9 zw k44_ k43_ k42_ k41_ k40_ k39_ zz BB
  clear hK K
  try simp only [Act.put, List.setIfInBounds_toArray, List.set_cons_zero, List.set_cons_succ]
  refine wpAnyH_take (i := 4) (oi := ?oi3) (v := ?vv3) ?hi3 ?hs3 ?hf3 ?ha3 ?hq3 ?hy3 hHeld ?hr3
  case hi3 => (simp only [List.getElem?_toArray, List.getElem?_cons_succ, List.getElem?_cons_zero]; exact rfl)
  case hs3 => kernel_rfl
  case hf3 => kernel_rfl
  case ha3 => kernel_rfl
  case hq3 => exact fun _ _ _ h => h
  case hy3 =>
    refine Or.inl ⟨by rfl, ?_⟩
    intro w' hSw
    try dsimp only at hSw
    go_simp
    first | done | with_reducible rfl
  simp only [Act.put, List.setIfInBounds_toArray, List.set_cons_succ, List.set_cons_zero]
  refine wpAnyH_done (by kernel_rfl) ?_ _
  obtain ⟨BB, zz, k39_, k40_, k41_, k42_, k43_, k44_, zw⟩ := hHeld
  have k52_ := BB
  clear BB
  have k53_ := zz
  clear zz
  have k54_ := zw
  clear zw
  go_wp2
  go_ret
  exact ⟨A36_, c37_, rfl, ho38_.more (by omega) (by omega), k52_⟩

set_option maxRecDepth 10000 in
set_option maxHeartbeats 400000 in
theorem implHalfAwards_no (E : Int) (A : Option Addr) (c : Nat) (xs : List Int) (w : World) (lo hi : Nat) (h : Ints w lo hi A xs) (hh : hi ≤ w.heap.size) (hl : xs.length ≤ 1152921504606846976) (hok : caseOkB E xs = false) :
    Calls Try.prog 37 #[.agg #[.int .i64 E, .slice A xs.length c]] w (RetInts w []) := by
  have HO := Lib.hid hok
  clear hok
  go_enter Try.func37, Try.ntmps37
  have o1_ := h.alloc (by first | omega | (simp; omega) | simp) (.cells #[.int .i64 E, .slice A xs.length c] 28)
  have B2_ := (Below.refl w.heap.size w).alloc (Nat.le_refl _) (.cells #[.int .i64 E, .slice A xs.length c] 28)
  have a3_ : (w.alloc (.cells #[.int .i64 E, .slice A xs.length c] 28)).cell? ⟨w.heap.size, 0, none⟩ = some (.int .i64 E) := by simp [go_sem]
  have a4_ : (w.alloc (.cells #[.int .i64 E, .slice A xs.length c] 28)).cell? ⟨w.heap.size, 1, none⟩ = some (.slice A xs.length c) := by simp [go_sem]
  go_wp2_with fail
  refine (implCaseOk_any E A c xs _ _ _ o1_ (by first | omega | (simp; omega) | simp) hl).mono ?_
  rintro e w5 ⟨he, hb5_⟩
  rw [HO.out] at he
  subst he
  have a6_ := (hb5_.cell (p := ⟨w.heap.size, _, none⟩) (by first | omega | (simp; omega) | simp)).trans a3_
  have a7_ := (hb5_.cell (p := ⟨w.heap.size, _, none⟩) (by first | omega | (simp; omega) | simp)).trans a4_
  have o8_ := o1_.below hb5_ (by first | omega | (simp; omega) | simp)
  have z9_ := hb5_.size
  try simp at z9_
  have B10_ := B2_.trans (hb5_.mono (by first | omega | (simp; omega) | simp))
  clear hb5_
  go_wp2
  go_ret
  exact ⟨none, 0, rfl, Own.nil, B10_⟩

theorem implHalfAwards_yes (E : Int) (A : Option Addr) (c : Nat) (xs : List Int) (w : World) (lo hi : Nat) (h : Ints w lo hi A xs) (hh : hi ≤ w.heap.size) (hok : caseOkB E xs = true) :
    Calls Try.prog 37 #[.agg #[.int .i64 E, .slice A xs.length c]] w (RetInts w (halfAw E xs)) := by
  by_cases hE : 2 * E ≤ xs.sum
  · rw [halfAw_low hE]; exact implHalfAwards_low E A c xs w lo hi h hh hok hE
  · rw [halfAw_high hE]; exact implHalfAwards_high E A c xs w lo hi h hh hok hE

end Go.Proofs.Ytkkdolbbioeknaa
