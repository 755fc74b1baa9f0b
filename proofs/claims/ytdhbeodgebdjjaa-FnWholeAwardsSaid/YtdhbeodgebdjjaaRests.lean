/-
  Rests with their places, put in order: the greatest first, and of equal ones the first place. No condition but that there are at most twelve.
-/
import Derived.Test.YtdhbeodgebdjjaaBase
import Derived.Test.YtdhbeodgebdjjaaShelf
import Derived.Deep.RegionHeld3
import Derived.BigQuiet
namespace Go.Proofs.Ytdhbeodgebdjjaa
open Go.RowKit Go.Shelf
open Go.Sort (grow grow_grow alloc_eq_grow grow_empty)

/-- A rest's two cells. -/
def encR (x : Int × Int) : List Value := [.int .i64 x.1, .int .i64 x.2]
def orI (a b : Int) : Int := if a = 0 then b else a
def cfR (x y : Int × Int) : Int := orI (Lib.compareInt y.1 x.1) (Lib.compareInt x.2 y.2)
theorem ltR (x y : Int × Int) : ltOf cfR x y = decide (y.1 < x.1 ∨ (x.1 = y.1 ∧ x.2 < y.2)) := by
  unfold ltOf cfR orI Lib.compareInt
  by_cases h1 : y.1 < x.1
  · simp [h1]
  · by_cases h2 : x.1 < y.1
    · have h3 : ¬ (x.1 = y.1) := by omega
      simp [h1, h2, h3]
    · have h3 : x.1 = y.1 := by omega
      by_cases h4 : x.2 < y.2
      · simp [h3, h4]
      · by_cases h5 : y.2 < x.2 <;> simp [h3, h4, h5]
theorem swoR : Sort.SWO (ltOf cfR) where
  irrefl x := by rw [ltR]; simp
  trans x y z h1 h2 := by rw [ltR] at *; simp at *; omega
  ntrans x y z h1 h2 := by rw [ltR] at *; simp at *; omega

set_option maxRecDepth 10000 in
set_option maxHeartbeats 400000 in
theorem or_any (b c : Nat) (x y : Int) (w : World) (hx : w.cell? ⟨b, 0, none⟩ = some (.int .i64 x)) (hy : w.cell? ⟨b, 1, none⟩ = some (.int .i64 y)) :
    Calls Try.prog 71 #[.slice (some ⟨b, 0, none⟩) 2 c] w fun e w' => e = .returned (.int .i64 (orI x y)) ∧ w' = w := by
  by_cases h1 : x = 0
  · have d1 : (x != 0) = false := by simp [h1]
    have HO : Hid (orI x y = y) := by show _ = _; simp [orI, h1]
    by_cases h2 : y = 0
    · have d2 : (y != 0) = false := by simp [h2]
      have HY := Lib.hid h2
      clear h1 h2
      go_enter Try.func71, Try.ntmps71
      go_wp2
      refine wp_loop_rounds 3 ?_
      rw [rounds_succ]
      go_wp2
      rw [rounds_succ]
      go_wp2
      rw [rounds_succ]
      go_wp2
      go_ret
      exact ⟨ret_int (HO.out.trans HY.out).symm, rfl⟩
    · have d2 : (y != 0) = true := by simp [h2]
      clear h1 h2
      go_enter Try.func71, Try.ntmps71
      go_wp2
      refine wp_loop_rounds 2 ?_
      rw [rounds_succ]
      go_wp2
      rw [rounds_succ]
      go_wp2
      go_ret
      exact ⟨ret_int HO.out.symm, rfl⟩
  · have d1 : (x != 0) = true := by simp [h1]
    have HO : Hid (orI x y = x) := by show _ = _; simp [orI, h1]
    clear h1
    go_enter Try.func71, Try.ntmps71
    go_wp2
    refine wp_loop_rounds 1 ?_
    rw [rounds_succ]
    go_wp2
    go_ret
    exact ⟨ret_int HO.out.symm, rfl⟩


set_option maxRecDepth 10000 in
set_option maxHeartbeats 1000000 in
theorem greatest_any (x y : Int × Int) (w : World) :
    Calls Try.prog 67 #[.agg #[.int .i64 x.1, .int .i64 x.2], .agg #[.int .i64 y.1, .int .i64 y.2]] w fun e w' => e = .returned (.int .i64 (cfR x y)) ∧ ∃ q os', w' = grow (w.drewN q) os' := by
  have c1 := fun W' => Try.cmp_Compare_int y.1 x.1 W'
  have c2 := fun W' => Try.cmp_Compare_int x.2 y.2 W'
  have HC : Hid (cfR x y = orI (Lib.compareInt y.1 x.1) (Lib.compareInt x.2 y.2)) := rfl
  generalize Lib.compareInt y.1 x.1 = r1 at c1 HC
  generalize Lib.compareInt x.2 y.2 = r2 at c2 HC
  generalize cfR x y = r at HC ⊢
  go_enter Try.func67, Try.ntmps67
  have e0 : (w.alloc (.cells #[.int .i64 x.1, .int .i64 x.2] 70)).cell? ⟨w.heap.size, 0, none⟩ = some (.int .i64 x.1) ∧ (w.alloc (.cells #[.int .i64 x.1, .int .i64 x.2] 70)).cell? ⟨w.heap.size, 1, none⟩ = some (.int .i64 x.2) := new2 w _ _ _
  have e1 : ((w.alloc (.cells #[.int .i64 x.1, .int .i64 x.2] 70)).alloc (.cells #[.int .i64 y.1, .int .i64 y.2] 70)).cell? ⟨w.heap.size + 1, 0, none⟩ = some (.int .i64 y.1) ∧ ((w.alloc (.cells #[.int .i64 x.1, .int .i64 x.2] 70)).alloc (.cells #[.int .i64 y.1, .int .i64 y.2] 70)).cell? ⟨w.heap.size + 1, 1, none⟩ = some (.int .i64 y.2) := by have e := new2 (w.alloc (.cells #[.int .i64 x.1, .int .i64 x.2] 70)) (.int .i64 y.1) (.int .i64 y.2) 70; rw [hsz] at e; exact e
  have e2 : ((w.alloc (.cells #[.int .i64 x.1, .int .i64 x.2] 70)).alloc (.cells #[.int .i64 y.1, .int .i64 y.2] 70)).cell? ⟨w.heap.size, 0, none⟩ = some (.int .i64 x.1) ∧ ((w.alloc (.cells #[.int .i64 x.1, .int .i64 x.2] 70)).alloc (.cells #[.int .i64 y.1, .int .i64 y.2] 70)).cell? ⟨w.heap.size, 1, none⟩ = some (.int .i64 x.2) := keep2 ((Below.refl (w.heap.size + 1) (w.alloc (.cells #[.int .i64 x.1, .int .i64 x.2] 70))).alloc (by rw [hsz]; exact Nat.le_refl _) (.cells #[.int .i64 y.1, .int .i64 y.2] 70)) e0 (by omega)
  have hs : ((w.alloc (.cells #[.int .i64 x.1, .int .i64 x.2] 70)).alloc (.cells #[.int .i64 y.1, .int .i64 y.2] 70)).heap.size = w.heap.size + 1 + 1 := by rw [hsz, hsz]
  have HG : Hid (((w.alloc (.cells #[.int .i64 x.1, .int .i64 x.2] 70)).alloc (.cells #[.int .i64 y.1, .int .i64 y.2] 70)) = grow w #[(.cells #[.int .i64 x.1, .int .i64 x.2] 70), (.cells #[.int .i64 y.1, .int .i64 y.2] 70)]) := by show _ = _; rw [alloc_eq_grow, alloc_eq_grow, grow_grow]; rfl
  clear e0
  go_wp2_with fail
  refine wp_region_held_drew (S := (fun w' : World => w'.cell? ⟨w.heap.size, 0, none⟩ = some (.int .i64 x.1) ∧ w'.cell? ⟨w.heap.size, 1, none⟩ = some (.int .i64 x.2) ∧ w'.cell? ⟨w.heap.size + 1, 0, none⟩ = some (.int .i64 y.1) ∧ w'.cell? ⟨w.heap.size + 1, 1, none⟩ = some (.int .i64 y.2) ∧ ∃ os, w' = grow (w.drewN 1) os)) (by kernel_rfl) ⟨e2.1, e2.2, e1.1, e1.2, _, by rw [HG.out]; rfl⟩ (fun hHeld => ?_)
  refine wpAnyH_take (i := 0) (oi := ?oi1) (v := ?vv1) ?hi1 ?hs1 ?hf1 ?ha1 ?hq1 ?hy1 hHeld ?hr1
  case hi1 => (simp only [List.getElem?_toArray, List.getElem?_cons_zero]; exact rfl)
  case hs1 => kernel_rfl
  case hf1 => kernel_rfl
  case ha1 => kernel_rfl
  case hq1 => exact fun _ _ _ h => h
  case hy1 =>
    refine Or.inl ⟨by rfl, ?_⟩
    intro w' hSw
    try dsimp only at hSw
    go_simp
    first | done | with_reducible rfl
  simp only [Act.put, List.setIfInBounds_toArray, List.set_cons_succ, List.set_cons_zero]
  refine wpAnyH_take (i := 1) (oi := ?oi2) (v := ?vv2) ?hi2 ?hs2 ?hf2 ?ha2 ?hq2 ?hy2 hHeld ?hr2
  case hi2 => (simp only [List.getElem?_toArray, List.getElem?_cons_succ, List.getElem?_cons_zero]; exact rfl)
  case hs2 => kernel_rfl
  case hf2 => kernel_rfl
  case ha2 => kernel_rfl
  case hq2 => exact fun _ _ _ h => h
  case hy2 =>
    refine Or.inl ⟨by rfl, ?_⟩
    intro w' hSw
    try dsimp only at hSw
    go_simp
    first | done | with_reducible rfl
  simp only [Act.put, List.setIfInBounds_toArray, List.set_cons_succ, List.set_cons_zero]
  refine wpAnyH_take (i := 2) (oi := ?oi3) (v := ?vv3) ?hi3 ?hs3 ?hf3 ?ha3 ?hq3 ?hy3 hHeld ?hr3
  case hi3 => (simp only [List.getElem?_toArray, List.getElem?_cons_succ, List.getElem?_cons_zero]; exact rfl)
  case hs3 => kernel_rfl
  case hf3 => kernel_rfl
  case ha3 => kernel_rfl
  case hq3 => exact fun _ _ _ h => h
  case hy3 =>
    refine Or.inl ⟨by rfl, ?_⟩
    intro w' hSw
    try dsimp only at hSw
    go_simp
    first | done | with_reducible rfl
  simp only [Act.put, List.setIfInBounds_toArray, List.set_cons_succ, List.set_cons_zero]
  refine wpAnyH_take (i := 3) (oi := ?oi4) (v := ?vv4) ?hi4 ?hs4 ?hf4 ?ha4 ?hq4 ?hy4 hHeld ?hr4
  case hi4 => (simp only [List.getElem?_toArray, List.getElem?_cons_succ, List.getElem?_cons_zero]; exact rfl)
  case hs4 => kernel_rfl
  case hf4 => kernel_rfl
  case ha4 => kernel_rfl
  case hq4 => exact fun _ _ _ h => h
  case hy4 =>
    refine Or.inl ⟨by rfl, ?_⟩
    intro w' hSw
    try dsimp only at hSw
    go_simp
    first | done | with_reducible rfl
  simp only [Act.put, List.setIfInBounds_toArray, List.set_cons_succ, List.set_cons_zero]
  refine wpAnyH_take (i := 5) (oi := ?oi5) (v := ?vv5) ?hi5 ?hs5 ?hf5 ?ha5 ?hq5 ?hy5 hHeld ?hr5
  case hi5 => (simp only [List.getElem?_toArray, List.getElem?_cons_succ, List.getElem?_cons_zero]; exact rfl)
  case hs5 => kernel_rfl
  case hf5 => kernel_rfl
  case ha5 => kernel_rfl
  case hq5 => exact fun _ _ _ h => h
  case hy5 =>
    refine Or.inl ⟨by rfl, ?_⟩
    intro w' hSw
    try dsimp only at hSw
    go_simp
    first | done | with_reducible rfl
  simp only [Act.put, List.setIfInBounds_toArray, List.set_cons_succ, List.set_cons_zero]
  refine wpAnyH_take (i := 6) (oi := ?oi6) (v := ?vv6) ?hi6 ?hs6 ?hf6 ?ha6 ?hq6 ?hy6 hHeld ?hr6
  case hi6 => (simp only [List.getElem?_toArray, List.getElem?_cons_succ, List.getElem?_cons_zero]; exact rfl)
  case hs6 => kernel_rfl
  case hf6 => kernel_rfl
  case ha6 => kernel_rfl
  case hq6 => exact fun _ _ _ h => h
  case hy6 =>
    refine Or.inl ⟨by rfl, ?_⟩
    intro w' hSw
    try dsimp only at hSw
    go_simp
    first | done | with_reducible rfl
  simp only [Act.put, List.setIfInBounds_toArray, List.set_cons_succ, List.set_cons_zero]
  refine wpAnyH_take (i := 7) (oi := ?oi7) (v := ?vv7) ?hi7 ?hs7 ?hf7 ?ha7 ?hq7 ?hy7 hHeld ?hr7
  case hi7 => (simp only [List.getElem?_toArray, List.getElem?_cons_succ, List.getElem?_cons_zero]; exact rfl)
  case hs7 => kernel_rfl
  case hf7 => kernel_rfl
  case ha7 => kernel_rfl
  case hq7 => exact fun _ _ _ h => h
  case hy7 =>
    refine Or.inl ⟨by rfl, ?_⟩
    intro w' hSw
    try dsimp only at hSw
    go_simp
    first | done | with_reducible rfl
  simp only [Act.put, List.setIfInBounds_toArray, List.set_cons_succ, List.set_cons_zero]
  refine wpAnyH_take (i := 8) (oi := ?oi8) (v := ?vv8) ?hi8 ?hs8 ?hf8 ?ha8 ?hq8 ?hy8 hHeld ?hr8
  case hi8 => (simp only [List.getElem?_toArray, List.getElem?_cons_succ, List.getElem?_cons_zero]; exact rfl)
  case hs8 => kernel_rfl
  case hf8 => kernel_rfl
  case ha8 => kernel_rfl
  case hq8 => exact fun _ _ _ h => h
  case hy8 =>
    refine Or.inl ⟨by rfl, ?_⟩
    intro w' hSw
    try dsimp only at hSw
    go_simp
    first | done | with_reducible rfl
  simp only [Act.put, List.setIfInBounds_toArray, List.set_cons_succ, List.set_cons_zero]
  refine wpAnyH_ready (rs := [4]) (by kernel_rfl) (by simp) ?_
  refine AllReadyH.cons (o := ?ox9) ?hx9 (fun K hK => ?_) AllReadyH.nil
  case hx9 => (simp only [List.getElem?_toArray, List.getElem?_cons_succ, List.getElem?_cons_zero]; exact rfl)
  obtain ⟨y0, y1, y2, y3, zz⟩ := hHeld
  go_simp
  go_at_call 72
  refine (c1 _).mono ?_
  rintro e w9 ⟨rfl, rfl⟩
  refine hK.out _ _ ⟨y0, y1, y2, y3, zz⟩ (fun hHeld => ?_)
  clear y0 y1 y2 y3 zz
  clear hK K
  try simp only [Act.put, List.setIfInBounds_toArray, List.set_cons_zero, List.set_cons_succ]
  refine wpAnyH_ready (rs := [9]) (by kernel_rfl) (by simp) ?_
  refine AllReadyH.cons (o := ?ox10) ?hx10 (fun K hK => ?_) AllReadyH.nil
  case hx10 => (simp only [List.getElem?_toArray, List.getElem?_cons_succ, List.getElem?_cons_zero]; exact rfl)
  obtain ⟨y0, y1, y2, y3, zz⟩ := hHeld
  go_simp
  go_at_call 72
  refine (c2 _).mono ?_
  rintro e w9 ⟨rfl, rfl⟩
  refine hK.out _ _ ⟨y0, y1, y2, y3, zz⟩ (fun hHeld => ?_)
  clear y0 y1 y2 y3 zz
  clear hK K
  try simp only [Act.put, List.setIfInBounds_toArray, List.set_cons_zero, List.set_cons_succ]
  refine wpAnyH_ready (rs := [10]) (by kernel_rfl) (by simp) ?_
  refine AllReadyH.cons (o := ?ox11) ?hx11 (fun K hK => ?_) AllReadyH.nil
  case hx11 => (simp only [List.getElem?_toArray, List.getElem?_cons_succ, List.getElem?_cons_zero]; exact rfl)
  obtain ⟨y0, y1, y2, y3, zz⟩ := hHeld
  go_simp
  obtain ⟨os, hos⟩ := zz
  have n0 := keep2 ((Below.refl ((w.alloc (.cells #[.int .i64 x.1, .int .i64 x.2] 70)).alloc (.cells #[.int .i64 y.1, .int .i64 y.2] 70)).heap.size ((w.alloc (.cells #[.int .i64 x.1, .int .i64 x.2] 70)).alloc (.cells #[.int .i64 y.1, .int .i64 y.2] 70))).alloc (Nat.le_refl _) (.cells #[.int .i64 r1, .int .i64 r2] 3)) e2 (by rw [hs]; omega)
  have n1 := keep2 ((Below.refl ((w.alloc (.cells #[.int .i64 x.1, .int .i64 x.2] 70)).alloc (.cells #[.int .i64 y.1, .int .i64 y.2] 70)).heap.size ((w.alloc (.cells #[.int .i64 x.1, .int .i64 x.2] 70)).alloc (.cells #[.int .i64 y.1, .int .i64 y.2] 70))).alloc (Nat.le_refl _) (.cells #[.int .i64 r1, .int .i64 r2] 3)) e1 (by rw [hs]; omega)
  have n2 := new2 ((w.alloc (.cells #[.int .i64 x.1, .int .i64 x.2] 70)).alloc (.cells #[.int .i64 y.1, .int .i64 y.2] 70)) (.int .i64 r1) (.int .i64 r2) 3
  refine hK.out _ _ ⟨n0.1, n0.2, n1.1, n1.2, os ++ #[(.cells #[.int .i64 r1, .int .i64 r2] 3)], by rw [← grow_grow, ← hos, ← alloc_eq_grow]; rfl⟩ (fun hHeld => ?_)
  clear y0 y1 y2 y3 hos
  clear hK K
  try simp only [Act.put, List.setIfInBounds_toArray, List.set_cons_zero, List.set_cons_succ]
  refine wpAnyH_ready (rs := [11]) (by kernel_rfl) (by simp) ?_
  refine AllReadyH.cons (o := ?ox12) ?hx12 (fun K hK => ?_) AllReadyH.nil
  case hx12 => (simp only [List.getElem?_toArray, List.getElem?_cons_succ, List.getElem?_cons_zero]; exact rfl)
  obtain ⟨y0, y1, y2, y3, zz⟩ := hHeld
  go_simp
  go_at_call 71
  refine (or_any _ _ r1 r2 _ (by first | exact n2.1 | (rw [← hs]; exact n2.1)) (by first | exact n2.2 | (rw [← hs]; exact n2.2))).mono ?_
  rintro e w9 ⟨rfl, rfl⟩
  refine hK.out _ _ ⟨y0, y1, y2, y3, zz⟩ (fun hHeld => ?_)
  clear y0 y1 y2 y3 zz
  clear hK K
  try simp only [Act.put, List.setIfInBounds_toArray, List.set_cons_zero, List.set_cons_succ]
  refine wpAnyH_take (i := 12) (oi := ?oi13) (v := ?vv13) ?hi13 ?hs13 ?hf13 ?ha13 ?hq13 ?hy13 hHeld ?hr13
  case hi13 => (simp only [List.getElem?_toArray, List.getElem?_cons_succ, List.getElem?_cons_zero]; exact rfl)
  case hs13 => kernel_rfl
  case hf13 => kernel_rfl
  case ha13 => kernel_rfl
  case hq13 => exact fun _ _ _ h => h
  case hy13 =>
    refine Or.inl ⟨by rfl, ?_⟩
    intro w' hSw
    try dsimp only at hSw
    go_simp
    first | done | with_reducible rfl
  simp only [Act.put, List.setIfInBounds_toArray, List.set_cons_succ, List.set_cons_zero]
  refine wpAnyH_done (by kernel_rfl) ?_ _
  obtain ⟨-, -, -, -, os9, hos9⟩ := hHeld
  go_wp2
  go_ret
  exact ⟨ret_int HC.out.symm, 1, os9, hos9⟩

theorem cmpLaysR (blk off size : Nat) (w : World) : CmpLays Try.prog 67 #[] encR 2 cfR blk off size w :=
  fun _ _ _ _ x y => greatest_any x y _


end Go.Proofs.Ytdhbeodgebdjjaa
