/-
  Chapter 8 of the program: RuleAwards. No condition but lengths that fit.
-/
import Derived.Test.YtkkdolbbioeknaaGame8H
import Derived.Test.YtkkdolbbioeknaaGame7W
import Derived.Test.YtkkdolbbioeknaaHalfI
import Derived.BigQuiet
import Derived.Deep.Cut
namespace Go.Proofs.Ytkkdolbbioeknaa
open Go.RowKit

theorem implArr_in (E : Int) (A : Option Addr) (c : Nat) (xs : List Int) (w : World) (lo hi : Nat) (h : Ints w lo hi A xs) (hh : hi ≤ w.heap.size) (hok : caseOkB E xs = true) :
    Calls Try.prog 38 #[.agg #[.int .i64 E, .slice A xs.length c]] w (RetInts w (arr E xs)) := by
  have e := implArrivalAwards_any E A c xs w lo hi h hh (by have e := caseOk_bd hok; omega)
  rwa [arrRow_yes hok] at e
/-- Awards with the rights of the first k people. -/
def plusTo (R Y : List Int) (k : Nat) : List Int := (List.range Y.length).map fun j => if j < k then Y.getD j 0 + 48 * R.getD j 0 else Y.getD j 0
theorem plusTo_len (R Y : List Int) (k : Nat) : (plusTo R Y k).length = Y.length := by simp [plusTo]
theorem plusTo_getD (R Y : List Int) (k : Nat) {j : Nat} (h : j < Y.length) : (plusTo R Y k).getD j 0 = if j < k then Y.getD j 0 + 48 * R.getD j 0 else Y.getD j 0 := by simp [plusTo, List.getD, h]
theorem plusTo_zero (R Y : List Int) : plusTo R Y 0 = Y := row_ext (plusTo_len R Y 0) fun j hj => by rw [plusTo_getD R Y 0 (by rw [plusTo_len] at hj; exact hj)]; simp
theorem plusTo_here (R Y : List Int) (k : Nat) : (plusTo R Y k).getD k 0 = Y.getD k 0 := by
  by_cases h : k < Y.length
  · rw [plusTo_getD R Y k h, if_neg (Nat.lt_irrefl _)]
  · rw [getD_far _ (by rw [plusTo_len]; omega), getD_far _ (by omega)]
theorem plusTo_succ (R Y : List Int) (k : Nat) (h : k < Y.length) : plusTo R Y (k + 1) = (plusTo R Y k).set k ((plusTo R Y k).getD k 0 + 48 * R.getD k 0) := by
  refine row_ext (by rw [List.length_set, plusTo_len, plusTo_len]) fun j hj => ?_
  rw [plusTo_len] at hj
  rw [plusTo_getD _ _ _ hj]
  by_cases e : j = k
  · subst e
    rw [getD_set_same _ _ _ _ (by rw [plusTo_len]; exact hj), plusTo_here, if_pos (Nat.lt_succ_self _)]
  · have q : ((plusTo R Y k).set k ((plusTo R Y k).getD k 0 + 48 * R.getD k 0)).getD j 0 = (plusTo R Y k).getD j 0 := by simp [List.getD, show ¬ k = j from fun z => e z.symm]
    rw [q, plusTo_getD _ _ _ hj]
    by_cases z : j < k
    · rw [if_pos z, if_pos (by omega)]
    · rw [if_neg z, if_neg (by omega)]
theorem plusTo_end (R Y : List Int) {k : Nat} (h : Y.length ≤ k) : plusR R Y = plusTo R Y k := by
  refine row_ext (by rw [plusR_length, plusTo_len]) fun j hj => ?_
  rw [plusR_length] at hj
  rw [plusR_getD _ _ hj, plusTo_getD _ _ _ hj, if_pos (by omega)]

set_option maxRecDepth 10000 in
set_option maxHeartbeats 2000000 in
theorem implRule_d (E : Int) (A : Option Addr) (c : Nat) (xs : List Int) (p : List UInt8) (Y : List Int) (w : World) (lo hi : Nat) (h : Ints w lo hi A xs) (hh : hi ≤ w.heap.size) (hok : caseOkB E xs = true) (hyr : ∀ k, 0 ≤ Y.getD k 0 ∧ Y.getD k 0 ≤ 2304) (hyl : Y.length = xs.length) (haw : awardsB (xs.sum - E) xs Y = true) (rec_ : ∀ (A : Option Addr) (c : Nat) (w : World) (lo hi : Nat), Ints w lo hi A xs → hi ≤ w.heap.size → Calls Try.prog 14 #[.agg #[.int .i64 (xs.sum - E), .slice A xs.length c], .string (S p)] w (RetInts w Y)) :
    Calls Try.prog 39 #[.agg #[.int .i64 E, .slice A xs.length c], .string (S p)] w (RetInts w (lossesRow xs Y)) := by
  have hS1 := S_size
  have hS2 : ∀ (l : List UInt8) (k : Nat) (h : k < (S l).size), (S l)[k]'h = l[k]'(by rw [S_size] at h; exact h) := fun _ _ h => S_at2 h
  have HCB := Lib.hid hok
  have hbd := caseOk_bd hok
  clear hok
  have HYR : Hid (∀ k, 0 ≤ Y.getD k 0 ∧ Y.getD k 0 ≤ 2304) := hyr
  have HYL := Lib.hid hyl
  have hyl1 : Y.length ≤ xs.length := by omega
  have hyl2 : xs.length ≤ Y.length := by omega
  have HAW := Lib.hid haw
  clear hyr hyl haw
  have HXL : Hid (xs.length = xs.length) := rfl
  go_enter Try.func39, Try.ntmps39
  have o1_ := h.alloc (by first | omega | (simp; omega) | simp) (.cells #[.int .i64 E, .slice A xs.length c] 28)
  have B2_ := (Below.refl w.heap.size w).alloc (Nat.le_refl _) (.cells #[.int .i64 E, .slice A xs.length c] 28)
  have a3_ : (w.alloc (.cells #[.int .i64 E, .slice A xs.length c] 28)).cell? ⟨w.heap.size, 0, none⟩ = some (.int .i64 E) := by simp [go_sem]
  have a4_ : (w.alloc (.cells #[.int .i64 E, .slice A xs.length c] 28)).cell? ⟨w.heap.size, 1, none⟩ = some (.slice A xs.length c) := by simp [go_sem]
  go_wp2_with fail
  refine (implOtherCase_yes E A c xs _ _ _ o1_ (by first | omega | (simp; omega) | simp) HCB.out).mono ?_
  rintro e w5 ⟨A6_, c7_, rfl, ho8_, hb5_⟩
  have ho8_ : Own w5 (w.heap.size + 1) w5.heap.size A6_ xs := ho8_.more (by simp) (Nat.le_refl _)
  have o9_ := o1_.below hb5_ (by first | omega | (simp; omega) | simp)
  have o10_ := (hb5_.cell (p := ⟨w.heap.size, 0, none⟩) (by first | omega | (simp; omega) | simp)).trans a3_
  have o11_ := (hb5_.cell (p := ⟨w.heap.size, 1, none⟩) (by first | omega | (simp; omega) | simp)).trans a4_
  have z12_ := hb5_.size
  try simp at z12_
  have B13_ := B2_.trans (hb5_.mono (by first | omega | (simp; omega) | simp))
  clear hb5_
  have o14_ := o9_.alloc (by first | omega | (simp; omega) | simp) (.cells #[.int .i64 (xs.sum - E), .slice A6_ xs.length c7_] 28)
  have o15_ := ho8_.alloc (by first | omega | (simp; omega) | simp) (.cells #[.int .i64 (xs.sum - E), .slice A6_ xs.length c7_] 28)
  have o16_ := cell_alloc (o := (.cells #[.int .i64 (xs.sum - E), .slice A6_ xs.length c7_] 28)) o10_ (by first | omega | (simp; omega) | simp)
  have o17_ := cell_alloc (o := (.cells #[.int .i64 (xs.sum - E), .slice A6_ xs.length c7_] 28)) o11_ (by first | omega | (simp; omega) | simp)
  have B18_ := B13_.alloc (by first | omega | (simp; omega) | simp) (.cells #[.int .i64 (xs.sum - E), .slice A6_ xs.length c7_] 28)
  have a19_ : (w5.alloc (.cells #[.int .i64 (xs.sum - E), .slice A6_ xs.length c7_] 28)).cell? ⟨w5.heap.size, 0, none⟩ = some (.int .i64 (xs.sum - E)) := by simp [go_sem]
  have a20_ : (w5.alloc (.cells #[.int .i64 (xs.sum - E), .slice A6_ xs.length c7_] 28)).cell? ⟨w5.heap.size, 1, none⟩ = some (.slice A6_ xs.length c7_) := by simp [go_sem]
  have g33_ : w.heap.size < (w5.alloc (.cells #[.int .i64 (xs.sum - E), .slice A6_ xs.length c7_] 28)).heap.size := (by first | omega | (simp; omega) | simp)
  have g34_ : w5.heap.size < (w5.alloc (.cells #[.int .i64 (xs.sum - E), .slice A6_ xs.length c7_] 28)).heap.size := (by first | omega | (simp; omega) | simp)
  have g35_ : hi ≤ (w5.alloc (.cells #[.int .i64 (xs.sum - E), .slice A6_ xs.length c7_] 28)).heap.size := (by first | omega | (simp; omega) | simp)
  have g36_ : w5.heap.size ≤ (w5.alloc (.cells #[.int .i64 (xs.sum - E), .slice A6_ xs.length c7_] 28)).heap.size := (by first | omega | (simp; omega) | simp)
  have g37_ : w.heap.size ≤ (w5.alloc (.cells #[.int .i64 (xs.sum - E), .slice A6_ xs.length c7_] 28)).heap.size := (by first | omega | (simp; omega) | simp)
  go_wp2_with fail
  refine wp_region_held_drew (S := (fun w' : World => Below w.heap.size w w' ∧ w5.heap.size + 1 ≤ w'.heap.size ∧ Ints w' (lo) (hi) A xs ∧ Own w' (w.heap.size + 1) (w5.heap.size) A6_ xs ∧ w'.cell? ⟨w.heap.size, 0, none⟩ = some (.int .i64 E) ∧ w'.cell? ⟨w.heap.size, 1, none⟩ = some (.slice A xs.length c) ∧ w'.cell? ⟨w5.heap.size, 0, none⟩ = some (.int .i64 (xs.sum - E)) ∧ w'.cell? ⟨w5.heap.size, 1, none⟩ = some (.slice A6_ xs.length c7_) ∧ (w5.alloc (.cells #[.int .i64 (xs.sum - E), .slice A6_ xs.length c7_] 28)).heap.size ≤ w'.heap.size)) (by kernel_rfl) ⟨B18_.drew, by exact (by first | omega | (simp; omega) | simp), o14_, o15_, o16_, o17_, a19_, a20_, Nat.le_refl _⟩ (fun hHeld => ?_)
  refine wpAnyH_take (i := 0) (oi := ?oi1) (v := ?vv1) ?hi1 ?hs1 ?hf1 ?ha1 ?hq1 ?hy1 hHeld ?hr1
  case hi1 => (simp only [List.getElem?_toArray, List.getElem?_cons_zero]; exact rfl)
  case hs1 => kernel_rfl
  case hf1 => kernel_rfl
  case ha1 => kernel_rfl
  case hq1 => exact fun _ _ _ h => h
  case hy1 =>
    refine Or.inl ⟨by rfl, ?_⟩
    intro w' hSw
    try dsimp only at hSw
    go_simp
    first | done | with_reducible rfl
  simp only [Act.put, List.setIfInBounds_toArray, List.set_cons_succ, List.set_cons_zero]
  refine wpAnyH_take (i := 1) (oi := ?oi2) (v := ?vv2) ?hi2 ?hs2 ?hf2 ?ha2 ?hq2 ?hy2 hHeld ?hr2
  case hi2 => (simp only [List.getElem?_toArray, List.getElem?_cons_succ, List.getElem?_cons_zero]; exact rfl)
  case hs2 => kernel_rfl
  case hf2 => kernel_rfl
  case ha2 => kernel_rfl
  case hq2 => exact fun _ _ _ h => h
  case hy2 =>
    refine Or.inl ⟨by rfl, ?_⟩
    intro w' hSw
    try dsimp only at hSw
    go_simp
    first | done | with_reducible rfl
  simp only [Act.put, List.setIfInBounds_toArray, List.set_cons_succ, List.set_cons_zero]
  refine wpAnyH_take (i := 2) (oi := ?oi3) (v := ?vv3) ?hi3 ?hs3 ?hf3 ?ha3 ?hq3 ?hy3 hHeld ?hr3
  case hi3 => (simp only [List.getElem?_toArray, List.getElem?_cons_succ, List.getElem?_cons_zero]; exact rfl)
  case hs3 => kernel_rfl
  case hf3 => kernel_rfl
  case ha3 => kernel_rfl
  case hq3 => exact fun _ _ _ h => h
  case hy3 =>
    refine Or.inl ⟨by rfl, ?_⟩
    intro w' hSw
    try dsimp only at hSw
    go_simp
    first | done | with_reducible rfl
  simp only [Act.put, List.setIfInBounds_toArray, List.set_cons_succ, List.set_cons_zero]
  refine wpAnyH_ready (rs := [3]) (by kernel_rfl) (by simp) ?_
  refine AllReadyH.cons rfl (fun K hK => ?_) AllReadyH.nil
  go_simp
  go_at_call 14
  obtain ⟨BB, zz, k27_, k28_, k29_, k30_, k31_, k32_, zw⟩ := hHeld
  (with_reducible refine (rec_ A6_ c7_ _ _ _ k28_.ints (by first | omega | (simp; omega) | simp)).mono ?_)
  rintro e w38 ⟨A21_, c22_, rfl, ho23_, hb9⟩
  have ho23_ := ho23_.more (lo' := w5.heap.size + 1) (by omega) (Nat.le_refl _)
  refine hK.out _ _ ⟨BB.trans (hb9.mono (by omega)), Nat.le_trans zz hb9.size, k27_.below hb9 (by first | omega | (simp; omega) | simp), k28_.below hb9 (by first | omega | (simp; omega) | simp), (hb9.cell (p := ⟨w.heap.size, 0, none⟩) (by first | omega | (simp; omega) | simp)).trans k29_, (hb9.cell (p := ⟨w.heap.size, 1, none⟩) (by first | omega | (simp; omega) | simp)).trans k30_, (hb9.cell (p := ⟨w5.heap.size, 0, none⟩) (by first | omega | (simp; omega) | simp)).trans k31_, (hb9.cell (p := ⟨w5.heap.size, 1, none⟩) (by first | omega | (simp; omega) | simp)).trans k32_, Nat.le_trans zw hb9.size⟩ (fun hHeld => ?_)
  clear hb9 zw k32_ k31_ k30_ k29_ k28_ k27_ zz BB
  clear hK K
  try simp only [Act.put, List.setIfInBounds_toArray, List.set_cons_zero, List.set_cons_succ]
  refine wpAnyH_ready (rs := [4]) (by kernel_rfl) (by simp) ?_
  refine AllReadyH.cons rfl (fun K hK => ?_) AllReadyH.nil
  go_simp
  go_at_call 56
  obtain ⟨BB, zz, k27_, k28_, k29_, k30_, k31_, k32_, zw⟩ := hHeld
  (with_reducible refine (implLossesOf_yes (xs.sum - E) A6_ c7_ xs A21_ c22_ Y _ _ _ k28_.ints (by first | omega | (simp; omega) | simp) (by have e := HXL.out; omega) _ _ ho23_.ints (by first | omega | (simp; omega) | simp) (by have e := HYL.out; omega) HAW.out).mono ?_)
  rintro e w39 ⟨A24_, c25_, rfl, ho26_, hb9⟩
  have ho26_ := ho26_.more (lo' := w5.heap.size + 1) (by omega) (Nat.le_refl _)
  have ho23_ := ho23_.below hb9 (Nat.le_refl _)
  have ho23_ := ho23_.more (Nat.le_refl _) hb9.size
  refine hK.out _ _ ⟨BB.trans (hb9.mono (by omega)), Nat.le_trans zz hb9.size, k27_.below hb9 (by first | omega | (simp; omega) | simp), k28_.below hb9 (by first | omega | (simp; omega) | simp), (hb9.cell (p := ⟨w.heap.size, 0, none⟩) (by first | omega | (simp; omega) | simp)).trans k29_, (hb9.cell (p := ⟨w.heap.size, 1, none⟩) (by first | omega | (simp; omega) | simp)).trans k30_, (hb9.cell (p := ⟨w5.heap.size, 0, none⟩) (by first | omega | (simp; omega) | simp)).trans k31_, (hb9.cell (p := ⟨w5.heap.size, 1, none⟩) (by first | omega | (simp; omega) | simp)).trans k32_, Nat.le_trans zw hb9.size⟩ (fun hHeld => ?_)
  clear hb9 zw k32_ k31_ k30_ k29_ k28_ k27_ zz BB
  clear hK K
  try simp only [Act.put, List.setIfInBounds_toArray, List.set_cons_zero, List.set_cons_succ]
  refine wpAnyH_take (i := 5) (oi := ?oi4) (v := ?vv4) ?hi4 ?hs4 ?hf4 ?ha4 ?hq4 ?hy4 hHeld ?hr4
  case hi4 => (simp only [List.getElem?_toArray, List.getElem?_cons_succ, List.getElem?_cons_zero]; exact rfl)
  case hs4 => kernel_rfl
  case hf4 => kernel_rfl
  case ha4 => kernel_rfl
  case hq4 => exact fun _ _ _ h => h
  case hy4 =>
    refine Or.inl ⟨by rfl, ?_⟩
    intro w' hSw
    try dsimp only at hSw
    go_simp
    first | done | with_reducible rfl
  simp only [Act.put, List.setIfInBounds_toArray, List.set_cons_succ, List.set_cons_zero]
  refine wpAnyH_done (by kernel_rfl) ?_ _
  obtain ⟨BB, zz, k27_, k28_, k29_, k30_, k31_, k32_, zw⟩ := hHeld
  have k40_ := BB
  clear BB
  have k41_ := zz
  clear zz
  have k42_ := zw
  clear zw
  go_wp2
  go_ret
  exact ⟨A24_, c25_, rfl, ho26_.more (by omega) (Nat.le_refl _), k40_⟩

set_option maxRecDepth 10000 in
set_option maxHeartbeats 2000000 in
theorem implRule_c (E : Int) (A : Option Addr) (c : Nat) (xs : List Int) (p : List UInt8) (Y : List Int) (w : World) (lo hi : Nat) (h : Ints w lo hi A xs) (hh : hi ≤ w.heap.size) (hok : caseOkB E xs = true) (hyr : ∀ k, 0 ≤ Y.getD k 0 ∧ Y.getD k 0 ≤ 2304) (hyl : Y.length = xs.length) (haw : awardsB E (cutRow E xs) Y = true) (rec_ : ∀ (A : Option Addr) (c : Nat) (w : World) (lo hi : Nat), Ints w lo hi A (cutRow E xs) → hi ≤ w.heap.size → Calls Try.prog 14 #[.agg #[.int .i64 E, .slice A (cutRow E xs).length c], .string (S p)] w (RetInts w Y)) :
    Calls Try.prog 40 #[.agg #[.int .i64 E, .slice A xs.length c], .string (S p)] w (RetInts w (Y)) := by
  have hS1 := S_size
  have hS2 : ∀ (l : List UInt8) (k : Nat) (h : k < (S l).size), (S l)[k]'h = l[k]'(by rw [S_size] at h; exact h) := fun _ _ h => S_at2 h
  have HCB := Lib.hid hok
  have hbd := caseOk_bd hok
  clear hok
  have HYR : Hid (∀ k, 0 ≤ Y.getD k 0 ∧ Y.getD k 0 ≤ 2304) := hyr
  have HYL := Lib.hid hyl
  have hyl1 : Y.length ≤ xs.length := by omega
  have hyl2 : xs.length ≤ Y.length := by omega
  have HAW := Lib.hid haw
  clear hyr hyl haw
  have HXL : Hid ((cutRow E xs).length = xs.length) := cutRow_length _ _
  go_enter Try.func40, Try.ntmps40
  have o1_ := h.alloc (by first | omega | (simp; omega) | simp) (.cells #[.int .i64 E, .slice A xs.length c] 28)
  have B2_ := (Below.refl w.heap.size w).alloc (Nat.le_refl _) (.cells #[.int .i64 E, .slice A xs.length c] 28)
  have a3_ : (w.alloc (.cells #[.int .i64 E, .slice A xs.length c] 28)).cell? ⟨w.heap.size, 0, none⟩ = some (.int .i64 E) := by simp [go_sem]
  have a4_ : (w.alloc (.cells #[.int .i64 E, .slice A xs.length c] 28)).cell? ⟨w.heap.size, 1, none⟩ = some (.slice A xs.length c) := by simp [go_sem]
  go_wp2_with fail
  refine (implCutCase_yes E A c xs _ _ _ o1_ (by first | omega | (simp; omega) | simp) HCB.out).mono ?_
  rintro e w5 ⟨A6_, c7_, rfl, ho8_, hb5_⟩
  have ho8_ : Own w5 (w.heap.size + 1) w5.heap.size A6_ (cutRow E xs) := ho8_.more (by simp) (Nat.le_refl _)
  have o9_ := o1_.below hb5_ (by first | omega | (simp; omega) | simp)
  have o10_ := (hb5_.cell (p := ⟨w.heap.size, 0, none⟩) (by first | omega | (simp; omega) | simp)).trans a3_
  have o11_ := (hb5_.cell (p := ⟨w.heap.size, 1, none⟩) (by first | omega | (simp; omega) | simp)).trans a4_
  have z12_ := hb5_.size
  try simp at z12_
  have B13_ := B2_.trans (hb5_.mono (by first | omega | (simp; omega) | simp))
  clear hb5_
  have o14_ := o9_.alloc (by first | omega | (simp; omega) | simp) (.cells #[.int .i64 E, .slice A6_ (cutRow E xs).length c7_] 28)
  have o15_ := ho8_.alloc (by first | omega | (simp; omega) | simp) (.cells #[.int .i64 E, .slice A6_ (cutRow E xs).length c7_] 28)
  have o16_ := cell_alloc (o := (.cells #[.int .i64 E, .slice A6_ (cutRow E xs).length c7_] 28)) o10_ (by first | omega | (simp; omega) | simp)
  have o17_ := cell_alloc (o := (.cells #[.int .i64 E, .slice A6_ (cutRow E xs).length c7_] 28)) o11_ (by first | omega | (simp; omega) | simp)
  have B18_ := B13_.alloc (by first | omega | (simp; omega) | simp) (.cells #[.int .i64 E, .slice A6_ (cutRow E xs).length c7_] 28)
  have a19_ : (w5.alloc (.cells #[.int .i64 E, .slice A6_ (cutRow E xs).length c7_] 28)).cell? ⟨w5.heap.size, 0, none⟩ = some (.int .i64 E) := by simp [go_sem]
  have a20_ : (w5.alloc (.cells #[.int .i64 E, .slice A6_ (cutRow E xs).length c7_] 28)).cell? ⟨w5.heap.size, 1, none⟩ = some (.slice A6_ (cutRow E xs).length c7_) := by simp [go_sem]
  go_wp2_with fail
  refine (rec_ A6_ c7_ _ _ _ o15_.ints (by first | omega | (simp; omega) | simp)).mono ?_
  rintro e w21 ⟨A22_, c23_, rfl, ho24_, hb21_⟩
  have ho24_ : Own w21 (w5.heap.size + 1) w21.heap.size A22_ Y := ho24_.more (by simp) (Nat.le_refl _)
  have o25_ := o14_.below hb21_ (by first | omega | (simp; omega) | simp)
  have o26_ := o15_.below hb21_ (by first | omega | (simp; omega) | simp)
  have o27_ := (hb21_.cell (p := ⟨w.heap.size, 0, none⟩) (by first | omega | (simp; omega) | simp)).trans o16_
  have o28_ := (hb21_.cell (p := ⟨w.heap.size, 1, none⟩) (by first | omega | (simp; omega) | simp)).trans o17_
  have o29_ := (hb21_.cell (p := ⟨w5.heap.size, 0, none⟩) (by first | omega | (simp; omega) | simp)).trans a19_
  have o30_ := (hb21_.cell (p := ⟨w5.heap.size, 1, none⟩) (by first | omega | (simp; omega) | simp)).trans a20_
  have z31_ := hb21_.size
  try simp at z31_
  have B32_ := B18_.trans (hb21_.mono (by first | omega | (simp; omega) | simp))
  clear hb21_
  go_wp2
  go_ret
  exact ⟨A22_, c23_, rfl, ho24_.more (by omega) (Nat.le_refl _), B32_⟩

set_option maxRecDepth 10000 in
set_option maxHeartbeats 2000000 in
theorem implRule_r (E : Int) (A : Option Addr) (c : Nat) (xs : List Int) (p : List UInt8) (Y : List Int) (w : World) (lo hi : Nat) (h : Ints w lo hi A xs) (hh : hi ≤ w.heap.size) (hok : caseOkB E xs = true) (hyr : ∀ k, 0 ≤ Y.getD k 0 ∧ Y.getD k 0 ≤ 2304) (hyl : Y.length = xs.length) (haw : awardsB (E - (rightsRow E xs).sum) (cutRow (xs.sum - E) xs) Y = true) (rec_ : ∀ (A : Option Addr) (c : Nat) (w : World) (lo hi : Nat), Ints w lo hi A (cutRow (xs.sum - E) xs) → hi ≤ w.heap.size → Calls Try.prog 14 #[.agg #[.int .i64 (E - (rightsRow E xs).sum), .slice A (cutRow (xs.sum - E) xs).length c], .string (S p)] w (RetInts w Y)) :
    Calls Try.prog 41 #[.agg #[.int .i64 E, .slice A xs.length c], .string (S p)] w (RetInts w (plusR (rightsRow E xs) Y)) := by
  have hS1 := S_size
  have hS2 : ∀ (l : List UInt8) (k : Nat) (h : k < (S l).size), (S l)[k]'h = l[k]'(by rw [S_size] at h; exact h) := fun _ _ h => S_at2 h
  have HCB := Lib.hid hok
  have hbd := caseOk_bd hok
  clear hok
  have HYR : Hid (∀ k, 0 ≤ Y.getD k 0 ∧ Y.getD k 0 ≤ 2304) := hyr
  have HYL := Lib.hid hyl
  have hyl1 : Y.length ≤ xs.length := by omega
  have hyl2 : xs.length ≤ Y.length := by omega
  have HAW := Lib.hid haw
  clear hyr hyl haw
  have HXL : Hid ((cutRow (xs.sum - E) xs).length = xs.length) := cutRow_length _ _
  have hrl1 : (rightsRow E xs).length ≤ xs.length := by rw [rightsRow_length]; omega
  have hrl2 : xs.length ≤ (rightsRow E xs).length := by rw [rightsRow_length]; omega
  go_enter Try.func41, Try.ntmps41
  have o1_ := h.alloc (by first | omega | (simp; omega) | simp) (.cells #[.int .i64 E, .slice A xs.length c] 28)
  have B2_ := (Below.refl w.heap.size w).alloc (Nat.le_refl _) (.cells #[.int .i64 E, .slice A xs.length c] 28)
  have a3_ : (w.alloc (.cells #[.int .i64 E, .slice A xs.length c] 28)).cell? ⟨w.heap.size, 0, none⟩ = some (.int .i64 E) := by simp [go_sem]
  have a4_ : (w.alloc (.cells #[.int .i64 E, .slice A xs.length c] 28)).cell? ⟨w.heap.size, 1, none⟩ = some (.slice A xs.length c) := by simp [go_sem]
  go_wp2_with fail
  refine (implRestCut_yes E A c xs _ _ _ o1_ (by first | omega | (simp; omega) | simp) HCB.out).mono ?_
  rintro e w5 ⟨A6_, c7_, rfl, ho8_, hb5_⟩
  have ho8_ : Own w5 (w.heap.size + 1) w5.heap.size A6_ (cutRow (xs.sum - E) xs) := ho8_.more (by simp) (Nat.le_refl _)
  have o9_ := o1_.below hb5_ (by first | omega | (simp; omega) | simp)
  have o10_ := (hb5_.cell (p := ⟨w.heap.size, 0, none⟩) (by first | omega | (simp; omega) | simp)).trans a3_
  have o11_ := (hb5_.cell (p := ⟨w.heap.size, 1, none⟩) (by first | omega | (simp; omega) | simp)).trans a4_
  have z12_ := hb5_.size
  try simp at z12_
  have B13_ := B2_.trans (hb5_.mono (by first | omega | (simp; omega) | simp))
  clear hb5_
  have o14_ := o9_.alloc (by first | omega | (simp; omega) | simp) (.cells #[.int .i64 (E - (rightsRow E xs).sum), .slice A6_ (cutRow (xs.sum - E) xs).length c7_] 28)
  have o15_ := ho8_.alloc (by first | omega | (simp; omega) | simp) (.cells #[.int .i64 (E - (rightsRow E xs).sum), .slice A6_ (cutRow (xs.sum - E) xs).length c7_] 28)
  have o16_ := cell_alloc (o := (.cells #[.int .i64 (E - (rightsRow E xs).sum), .slice A6_ (cutRow (xs.sum - E) xs).length c7_] 28)) o10_ (by first | omega | (simp; omega) | simp)
  have o17_ := cell_alloc (o := (.cells #[.int .i64 (E - (rightsRow E xs).sum), .slice A6_ (cutRow (xs.sum - E) xs).length c7_] 28)) o11_ (by first | omega | (simp; omega) | simp)
  have B18_ := B13_.alloc (by first | omega | (simp; omega) | simp) (.cells #[.int .i64 (E - (rightsRow E xs).sum), .slice A6_ (cutRow (xs.sum - E) xs).length c7_] 28)
  have a19_ : (w5.alloc (.cells #[.int .i64 (E - (rightsRow E xs).sum), .slice A6_ (cutRow (xs.sum - E) xs).length c7_] 28)).cell? ⟨w5.heap.size, 0, none⟩ = some (.int .i64 (E - (rightsRow E xs).sum)) := by simp [go_sem]
  have a20_ : (w5.alloc (.cells #[.int .i64 (E - (rightsRow E xs).sum), .slice A6_ (cutRow (xs.sum - E) xs).length c7_] 28)).cell? ⟨w5.heap.size, 1, none⟩ = some (.slice A6_ (cutRow (xs.sum - E) xs).length c7_) := by simp [go_sem]
  go_wp2_with fail
  refine (rec_ A6_ c7_ _ _ _ o15_.ints (by first | omega | (simp; omega) | simp)).mono ?_
  rintro e w21 ⟨A22_, c23_, rfl, ho24_, hb21_⟩
  have ho24_ : Own w21 (w5.heap.size + 1) w21.heap.size A22_ Y := ho24_.more (by simp) (Nat.le_refl _)
  have o25_ := o14_.below hb21_ (by first | omega | (simp; omega) | simp)
  have o26_ := o15_.below hb21_ (by first | omega | (simp; omega) | simp)
  have o27_ := (hb21_.cell (p := ⟨w.heap.size, 0, none⟩) (by first | omega | (simp; omega) | simp)).trans o16_
  have o28_ := (hb21_.cell (p := ⟨w.heap.size, 1, none⟩) (by first | omega | (simp; omega) | simp)).trans o17_
  have o29_ := (hb21_.cell (p := ⟨w5.heap.size, 0, none⟩) (by first | omega | (simp; omega) | simp)).trans a19_
  have o30_ := (hb21_.cell (p := ⟨w5.heap.size, 1, none⟩) (by first | omega | (simp; omega) | simp)).trans a20_
  have z31_ := hb21_.size
  try simp at z31_
  have B32_ := B18_.trans (hb21_.mono (by first | omega | (simp; omega) | simp))
  clear hb21_
  go_wp2_with fail
  refine (implRightsOf_yes E A c xs _ _ _ o25_ (by first | omega | (simp; omega) | simp) HCB.out).mono ?_
  rintro e w33 ⟨A34_, c35_, rfl, ho36_, hb33_⟩
  have o37_ := o25_.below hb33_ (by first | omega | (simp; omega) | simp)
  have o38_ := o26_.below hb33_ (by first | omega | (simp; omega) | simp)
  have o39_ := ho24_.below hb33_ (by first | omega | (simp; omega) | simp)
  have o40_ := (hb33_.cell (p := ⟨w.heap.size, 0, none⟩) (by first | omega | (simp; omega) | simp)).trans o27_
  have o41_ := (hb33_.cell (p := ⟨w.heap.size, 1, none⟩) (by first | omega | (simp; omega) | simp)).trans o28_
  have o42_ := (hb33_.cell (p := ⟨w5.heap.size, 0, none⟩) (by first | omega | (simp; omega) | simp)).trans o29_
  have o43_ := (hb33_.cell (p := ⟨w5.heap.size, 1, none⟩) (by first | omega | (simp; omega) | simp)).trans o30_
  have z44_ := hb33_.size
  have B45_ := B32_.trans (hb33_.mono (by first | omega | (simp; omega) | simp))
  clear hb33_
  obtain ⟨b46_, f47_, rfl, b46_l, b46_h, -⟩ := o39_.ints (by have e := HYL.out; omega)
  go_wp2
  go_loopw [21] (fun i wr => ∃ k : Nat, i = .int .i64 k ∧ (k ≤ (rightsRow E xs).length) ∧ Own wr (w5.heap.size + 1) (w21.heap.size) (some ⟨b46_, f47_, none⟩) (plusTo (rightsRow E xs) Y k) ∧ Below w.heap.size w wr ∧ w33.heap.size ≤ wr.heap.size ∧ Ints wr (lo) (hi) A xs ∧ Own wr (w.heap.size + 1) (w5.heap.size) A6_ (cutRow (xs.sum - E) xs) ∧ Own wr (w21.heap.size) (w33.heap.size) A34_ (rightsRow E xs) ∧ wr.cell? ⟨w.heap.size, 0, none⟩ = some (.int .i64 E) ∧ wr.cell? ⟨w.heap.size, 1, none⟩ = some (.slice A xs.length c) ∧ wr.cell? ⟨w5.heap.size, 0, none⟩ = some (.int .i64 (E - (rightsRow E xs).sum)) ∧ wr.cell? ⟨w5.heap.size, 1, none⟩ = some (.slice A6_ (cutRow (xs.sum - E) xs).length c7_)) (fun i _ => (rightsRow E xs).length - (intOf i).toNat)
  case atStart => exact ⟨0, rfl, by omega, (by rw [plusTo_zero]; exact o39_), B45_, (by first | omega | (simp; omega) | simp), o37_, o38_, ho36_, o40_, o41_, o42_, o43_⟩
  case round =>
    obtain ⟨k, rfl, hk, G49_, k50_, k51_, k52_, k53_, k54_, k55_, k56_, k57_, k58_⟩ := hrel
    obtain ⟨w48, rfl⟩ : ∃ x, x = wr := ⟨_, rfl⟩
    have HL59_ : Hid ((plusTo (rightsRow E xs) Y k).length = Y.length) := plusTo_len _ _ _
    by_cases hlt0 : k < (rightsRow E xs).length
    · obtain ⟨b60_, f61_, rfl, b60_l, b60_h, -⟩ := k54_.ints (by rw [rightsRow_length]; omega)
      have c62_ : w48.cell? ⟨b60_, f61_ + k, none⟩ = some (.int .i64 ((rightsRow E xs).getD k 0)) := k54_.ints.at2 k (by first | omega | (simp; omega) | simp)
      have c62_i : (k : Int) < ((rightsRow E xs).length : Int) := by omega
      have c62_j : (0 : Int) ≤ (k : Int) := by omega
      have v63_g := rights_rg' HCB.out k
      obtain ⟨v63_, hv63_⟩ : ∃ v, v = (rightsRow E xs).getD k 0 := ⟨_, rfl⟩
      rw [← hv63_] at c62_ v63_g
      have Hv63_ := Lib.hid hv63_
      clear hv63_
      obtain ⟨v63_g1, v63_g2⟩ := v63_g
      have c64_ : w48.cell? ⟨b46_, f47_ + k, none⟩ = some (.int .i64 ((plusTo (rightsRow E xs) Y k).getD k 0)) := G49_.ints.at2 k (by rw [plusTo_len]; omega)
      have c64_i : (k : Int) < (Y.length : Int) := by omega
      have c64_j : (0 : Int) ≤ (k : Int) := by omega
      have v65_g := (show 0 ≤ (plusTo (rightsRow E xs) Y k).getD k 0 ∧ (plusTo (rightsRow E xs) Y k).getD k 0 ≤ 2304 from by rw [plusTo_here]; exact HYR.out k)
      obtain ⟨v65_, hv65_⟩ : ∃ v, v = (plusTo (rightsRow E xs) Y k).getD k 0 := ⟨_, rfl⟩
      rw [← hv65_] at c64_ v65_g
      have Hv65_ := Lib.hid hv65_
      clear hv65_
      obtain ⟨v65_g1, v65_g2⟩ := v65_g
      have c67_d := G49_.cells k (by rw [plusTo_len]; omega)
      obtain ⟨c67_, c67_f⟩ := c67_d
      have c67_i : (k : Int) < (Y.length : Int) := by omega
      have c67_j : (0 : Int) ≤ (k : Int) := by omega
      have hC66_ := Chg.setCell (lo := b46_) (hi := b46_ + 1) w48 (p := ⟨b46_, f47_ + k, none⟩) ⟨Nat.le_refl _, Nat.lt_succ_self _⟩ (.int .i64 (v65_ + (48 * v63_)))
      have G68_ := G49_.stored (j := k) (by rw [plusTo_len]; omega) (v65_ + (48 * v63_))
      have o69_ := k52_.chg hC66_ (by first | omega | (simp; omega) | simp) (by omega)
      have o70_ := k53_.chg hC66_ (by first | omega | (simp; omega) | simp) (by omega)
      have o71_ := k54_.chg hC66_ (by first | omega | (simp; omega) | simp) (by omega)
      have o72_ := (hC66_.cell (p := ⟨w.heap.size, 0, none⟩) (by first | omega | (simp; omega) | simp) (by first | omega | (simp; omega) | simp)).trans k55_
      have o73_ := (hC66_.cell (p := ⟨w.heap.size, 1, none⟩) (by first | omega | (simp; omega) | simp) (by first | omega | (simp; omega) | simp)).trans k56_
      have o74_ := (hC66_.cell (p := ⟨w5.heap.size, 0, none⟩) (by first | omega | (simp; omega) | simp) (by first | omega | (simp; omega) | simp)).trans k57_
      have o75_ := (hC66_.cell (p := ⟨w5.heap.size, 1, none⟩) (by first | omega | (simp; omega) | simp) (by first | omega | (simp; omega) | simp)).trans k58_
      have z76_ := hC66_.size
      try simp at z76_
      have B77_ := k50_.trans (hC66_.below (by omega) (by first | omega | (simp; omega) | simp))
      clear hC66_
      have HL78_ : Hid (((plusTo (rightsRow E xs) Y k).set k (v65_ + (48 * v63_))).length = Y.length) := by show _ = _; rw [List.length_set]; first | rfl | exact HL59_.out
      go_wp2
      go_roundw
      case rel => exact ⟨k + 1, by go_num, by omega, (by rw [plusTo_succ _ _ _ (by omega), ← Hv65_.out, ← Hv63_.out]; exact G68_), B77_, (by first | omega | (simp; omega) | simp), o69_, o70_, o71_, o72_, o73_, o74_, o75_⟩
      case measure => simp [intOf] <;> omega
    · have hke : Y.length ≤ k := by omega
      have HFIN := Lib.hid (plusTo_end (rightsRow E xs) Y (k := k) (by omega))
      go_wp2
      go_ret
      rw [HFIN.out]
      refine ⟨(some ⟨b46_, f47_, none⟩), c23_, ?_, G49_.more (by omega) (by omega), k50_⟩
      show Ending.returned (.slice (some ⟨b46_, f47_, none⟩) Y.length c23_) = _
      rw [HL59_.out]

theorem last_size8 (p : List UInt8) (x : UInt8) : (p ++ [x]).length = p.length + 1 := by simp
theorem ruleB_front {p : List UInt8} {x : UInt8} (h : ruleB (p ++ [x]) = true) (hp : p ≠ []) : ruleB p = true := by
  cases p with
  | nil => exact absurd rfl hp
  | cons a r =>
    obtain ⟨h1, h2, h3⟩ := ruleB_iff.1 (show ruleB (a :: (r ++ [x])) = true from h)
    simp only [List.all_append, Bool.and_eq_true, List.length_append, List.length_cons, List.length_nil] at h2 h3
    exact ruleB_iff.2 ⟨h1, h2.1, by omega⟩

set_option maxRecDepth 10000 in
set_option maxHeartbeats 2000000 in
theorem implRuleAwards_e (E : Int) (A : Option Addr) (c : Nat) (xs : List Int) (p : List UInt8) (w : World) (lo hi : Nat) (h : Ints w lo hi A xs) (hh : hi ≤ w.heap.size) (hok : caseOkB E xs = true) (hrb : ruleB (p ++ [101]) = true) :
    Calls Try.prog 14 #[.agg #[.int .i64 E, .slice A xs.length c], .string (S (p ++ [101]))] w (RetInts w (ruleAw (p ++ [101]).reverse E xs)) := by
  have hS1 := S_size
  have hS2 : ∀ (l : List UInt8) (k : Nat) (h : k < (S l).size), (S l)[k]'h = l[k]'(by rw [S_size] at h; exact h) := fun _ _ h => S_at2 h
  have HCB := Lib.hid hok
  have hbd := caseOk_bd hok
  have hpl : (p ++ [101]).length = p.length + 1 := last_size8 p 101
  have hpl1 : (p.length : Int) < ((p ++ [101]).length : Int) := by omega
  have hp9 : (p ++ [101]).length ≤ 9 := by have e := (rule_letters hrb).2.2; omega
  clear hpl
  have HRB := Lib.hid hrb
  clear hrb hok
  go_enter Try.func14, Try.ntmps14
  have o1_ := h.alloc (by first | omega | (simp; omega) | simp) (.cells #[.int .i64 E, .slice A xs.length c] 28)
  have B2_ := (Below.refl w.heap.size w).alloc (Nat.le_refl _) (.cells #[.int .i64 E, .slice A xs.length c] 28)
  have a3_ : (w.alloc (.cells #[.int .i64 E, .slice A xs.length c] 28)).cell? ⟨w.heap.size, 0, none⟩ = some (.int .i64 E) := by simp [go_sem]
  have a4_ : (w.alloc (.cells #[.int .i64 E, .slice A xs.length c] 28)).cell? ⟨w.heap.size, 1, none⟩ = some (.slice A xs.length c) := by simp [go_sem]
  go_wp2_with fail
  refine (implCaseOk_any E A c xs _ _ _ o1_ (by first | omega | (simp; omega) | simp) (by omega)).mono ?_
  rintro e w5 ⟨he, hb5_⟩
  rw [HCB.out] at he
  subst he
  have o6_ := o1_.below hb5_ (by first | omega | (simp; omega) | simp)
  have o7_ := (hb5_.cell (p := ⟨w.heap.size, 0, none⟩) (by first | omega | (simp; omega) | simp)).trans a3_
  have o8_ := (hb5_.cell (p := ⟨w.heap.size, 1, none⟩) (by first | omega | (simp; omega) | simp)).trans a4_
  have z9_ := hb5_.size
  try simp at z9_
  have B10_ := B2_.trans (hb5_.mono (by first | omega | (simp; omega) | simp))
  clear hb5_
  go_wp2_with fail
  refine (implRuleOk_same (p ++ [101]) _ (by omega)).mono ?_
  rintro e w' ⟨he, rfl⟩
  rw [HRB.out] at he
  subst he
  have v11_i : (p.length : Int) < ((p ++ [101]).length : Int) := by omega
  have v11_j : (0 : Int) ≤ (p.length : Int) := by omega
  have v11_k : p.length < (p ++ [101]).length := by omega
  have hv11_ : ((((p ++ [101])[p.length]'v11_k).toNat : Nat) : Int) = 101 := by rw [List.getElem_concat_length rfl]; rfl
  go_wp2_with fail
  refine (implEvenAwards_yes E A c xs _ _ _ o6_ (by first | omega | (simp; omega) | simp) HCB.out).mono ?_
  rintro e w12 ⟨A13_, c14_, rfl, ho15_, hb12_⟩
  have o16_ := o6_.below hb12_ (by first | omega | (simp; omega) | simp)
  have o17_ := (hb12_.cell (p := ⟨w.heap.size, 0, none⟩) (by first | omega | (simp; omega) | simp)).trans o7_
  have o18_ := (hb12_.cell (p := ⟨w.heap.size, 1, none⟩) (by first | omega | (simp; omega) | simp)).trans o8_
  have z19_ := hb12_.size
  have B20_ := B10_.trans (hb12_.mono (by first | omega | (simp; omega) | simp))
  clear hb12_
  have hrev : (p ++ [101]).reverse = 101 :: p.reverse := by simp
  have hfin : ruleAw (p ++ [101]).reverse E xs = evenAw E xs := by rw [hrev]; rfl
  have HFIN := Lib.hid hfin
  clear hfin hrev
  go_wp2
  go_ret
  rw [HFIN.out]
  exact ⟨A13_, c14_, rfl, ho15_.more (by omega) (Nat.le_refl _), B20_⟩

set_option maxRecDepth 10000 in
set_option maxHeartbeats 2000000 in
theorem implRuleAwards_l (E : Int) (A : Option Addr) (c : Nat) (xs : List Int) (p : List UInt8) (w : World) (lo hi : Nat) (h : Ints w lo hi A xs) (hh : hi ≤ w.heap.size) (hok : caseOkB E xs = true) (hrb : ruleB (p ++ [108]) = true) :
    Calls Try.prog 14 #[.agg #[.int .i64 E, .slice A xs.length c], .string (S (p ++ [108]))] w (RetInts w (ruleAw (p ++ [108]).reverse E xs)) := by
  have hS1 := S_size
  have hS2 : ∀ (l : List UInt8) (k : Nat) (h : k < (S l).size), (S l)[k]'h = l[k]'(by rw [S_size] at h; exact h) := fun _ _ h => S_at2 h
  have HCB := Lib.hid hok
  have hbd := caseOk_bd hok
  have hpl : (p ++ [108]).length = p.length + 1 := last_size8 p 108
  have hpl1 : (p.length : Int) < ((p ++ [108]).length : Int) := by omega
  have hp9 : (p ++ [108]).length ≤ 9 := by have e := (rule_letters hrb).2.2; omega
  clear hpl
  have HRB := Lib.hid hrb
  clear hrb hok
  go_enter Try.func14, Try.ntmps14
  have o1_ := h.alloc (by first | omega | (simp; omega) | simp) (.cells #[.int .i64 E, .slice A xs.length c] 28)
  have B2_ := (Below.refl w.heap.size w).alloc (Nat.le_refl _) (.cells #[.int .i64 E, .slice A xs.length c] 28)
  have a3_ : (w.alloc (.cells #[.int .i64 E, .slice A xs.length c] 28)).cell? ⟨w.heap.size, 0, none⟩ = some (.int .i64 E) := by simp [go_sem]
  have a4_ : (w.alloc (.cells #[.int .i64 E, .slice A xs.length c] 28)).cell? ⟨w.heap.size, 1, none⟩ = some (.slice A xs.length c) := by simp [go_sem]
  go_wp2_with fail
  refine (implCaseOk_any E A c xs _ _ _ o1_ (by first | omega | (simp; omega) | simp) (by omega)).mono ?_
  rintro e w5 ⟨he, hb5_⟩
  rw [HCB.out] at he
  subst he
  have o6_ := o1_.below hb5_ (by first | omega | (simp; omega) | simp)
  have o7_ := (hb5_.cell (p := ⟨w.heap.size, 0, none⟩) (by first | omega | (simp; omega) | simp)).trans a3_
  have o8_ := (hb5_.cell (p := ⟨w.heap.size, 1, none⟩) (by first | omega | (simp; omega) | simp)).trans a4_
  have z9_ := hb5_.size
  try simp at z9_
  have B10_ := B2_.trans (hb5_.mono (by first | omega | (simp; omega) | simp))
  clear hb5_
  go_wp2_with fail
  refine (implRuleOk_same (p ++ [108]) _ (by omega)).mono ?_
  rintro e w' ⟨he, rfl⟩
  rw [HRB.out] at he
  subst he
  have v11_i : (p.length : Int) < ((p ++ [108]).length : Int) := by omega
  have v11_j : (0 : Int) ≤ (p.length : Int) := by omega
  have v11_k : p.length < (p ++ [108]).length := by omega
  have hv11_ : ((((p ++ [108])[p.length]'v11_k).toNat : Nat) : Int) = 108 := by rw [List.getElem_concat_length rfl]; rfl
  go_wp2_with fail
  refine (implEvenLosses_yes E A c xs _ _ _ o6_ (by first | omega | (simp; omega) | simp) HCB.out).mono ?_
  rintro e w12 ⟨A13_, c14_, rfl, ho15_, hb12_⟩
  have o16_ := o6_.below hb12_ (by first | omega | (simp; omega) | simp)
  have o17_ := (hb12_.cell (p := ⟨w.heap.size, 0, none⟩) (by first | omega | (simp; omega) | simp)).trans o7_
  have o18_ := (hb12_.cell (p := ⟨w.heap.size, 1, none⟩) (by first | omega | (simp; omega) | simp)).trans o8_
  have z19_ := hb12_.size
  have B20_ := B10_.trans (hb12_.mono (by first | omega | (simp; omega) | simp))
  clear hb12_
  have hrev : (p ++ [108]).reverse = 108 :: p.reverse := by simp
  have hfin : ruleAw (p ++ [108]).reverse E xs = evenLo E xs := by rw [hrev]; rfl
  have HFIN := Lib.hid hfin
  clear hfin hrev
  go_wp2
  go_ret
  rw [HFIN.out]
  exact ⟨A13_, c14_, rfl, ho15_.more (by omega) (Nat.le_refl _), B20_⟩

set_option maxRecDepth 10000 in
set_option maxHeartbeats 2000000 in
theorem implRuleAwards_h (E : Int) (A : Option Addr) (c : Nat) (xs : List Int) (p : List UInt8) (w : World) (lo hi : Nat) (h : Ints w lo hi A xs) (hh : hi ≤ w.heap.size) (hok : caseOkB E xs = true) (hrb : ruleB (p ++ [104]) = true) :
    Calls Try.prog 14 #[.agg #[.int .i64 E, .slice A xs.length c], .string (S (p ++ [104]))] w (RetInts w (ruleAw (p ++ [104]).reverse E xs)) := by
  have hS1 := S_size
  have hS2 : ∀ (l : List UInt8) (k : Nat) (h : k < (S l).size), (S l)[k]'h = l[k]'(by rw [S_size] at h; exact h) := fun _ _ h => S_at2 h
  have HCB := Lib.hid hok
  have hbd := caseOk_bd hok
  have hpl : (p ++ [104]).length = p.length + 1 := last_size8 p 104
  have hpl1 : (p.length : Int) < ((p ++ [104]).length : Int) := by omega
  have hp9 : (p ++ [104]).length ≤ 9 := by have e := (rule_letters hrb).2.2; omega
  clear hpl
  have HRB := Lib.hid hrb
  clear hrb hok
  go_enter Try.func14, Try.ntmps14
  have o1_ := h.alloc (by first | omega | (simp; omega) | simp) (.cells #[.int .i64 E, .slice A xs.length c] 28)
  have B2_ := (Below.refl w.heap.size w).alloc (Nat.le_refl _) (.cells #[.int .i64 E, .slice A xs.length c] 28)
  have a3_ : (w.alloc (.cells #[.int .i64 E, .slice A xs.length c] 28)).cell? ⟨w.heap.size, 0, none⟩ = some (.int .i64 E) := by simp [go_sem]
  have a4_ : (w.alloc (.cells #[.int .i64 E, .slice A xs.length c] 28)).cell? ⟨w.heap.size, 1, none⟩ = some (.slice A xs.length c) := by simp [go_sem]
  go_wp2_with fail
  refine (implCaseOk_any E A c xs _ _ _ o1_ (by first | omega | (simp; omega) | simp) (by omega)).mono ?_
  rintro e w5 ⟨he, hb5_⟩
  rw [HCB.out] at he
  subst he
  have o6_ := o1_.below hb5_ (by first | omega | (simp; omega) | simp)
  have o7_ := (hb5_.cell (p := ⟨w.heap.size, 0, none⟩) (by first | omega | (simp; omega) | simp)).trans a3_
  have o8_ := (hb5_.cell (p := ⟨w.heap.size, 1, none⟩) (by first | omega | (simp; omega) | simp)).trans a4_
  have z9_ := hb5_.size
  try simp at z9_
  have B10_ := B2_.trans (hb5_.mono (by first | omega | (simp; omega) | simp))
  clear hb5_
  go_wp2_with fail
  refine (implRuleOk_same (p ++ [104]) _ (by omega)).mono ?_
  rintro e w' ⟨he, rfl⟩
  rw [HRB.out] at he
  subst he
  have v11_i : (p.length : Int) < ((p ++ [104]).length : Int) := by omega
  have v11_j : (0 : Int) ≤ (p.length : Int) := by omega
  have v11_k : p.length < (p ++ [104]).length := by omega
  have hv11_ : ((((p ++ [104])[p.length]'v11_k).toNat : Nat) : Int) = 104 := by rw [List.getElem_concat_length rfl]; rfl
  go_wp2_with fail
  refine (implHalfAwards_yes E A c xs _ _ _ o6_ (by first | omega | (simp; omega) | simp) HCB.out).mono ?_
  rintro e w12 ⟨A13_, c14_, rfl, ho15_, hb12_⟩
  have o16_ := o6_.below hb12_ (by first | omega | (simp; omega) | simp)
  have o17_ := (hb12_.cell (p := ⟨w.heap.size, 0, none⟩) (by first | omega | (simp; omega) | simp)).trans o7_
  have o18_ := (hb12_.cell (p := ⟨w.heap.size, 1, none⟩) (by first | omega | (simp; omega) | simp)).trans o8_
  have z19_ := hb12_.size
  have B20_ := B10_.trans (hb12_.mono (by first | omega | (simp; omega) | simp))
  clear hb12_
  have hrev : (p ++ [104]).reverse = 104 :: p.reverse := by simp
  have hfin : ruleAw (p ++ [104]).reverse E xs = halfAw E xs := by rw [hrev]; rfl
  have HFIN := Lib.hid hfin
  clear hfin hrev
  go_wp2
  go_ret
  rw [HFIN.out]
  exact ⟨A13_, c14_, rfl, ho15_.more (by omega) (Nat.le_refl _), B20_⟩

set_option maxRecDepth 10000 in
set_option maxHeartbeats 2000000 in
theorem implRuleAwards_a (E : Int) (A : Option Addr) (c : Nat) (xs : List Int) (p : List UInt8) (w : World) (lo hi : Nat) (h : Ints w lo hi A xs) (hh : hi ≤ w.heap.size) (hok : caseOkB E xs = true) (hrb : ruleB (p ++ [97]) = true) :
    Calls Try.prog 14 #[.agg #[.int .i64 E, .slice A xs.length c], .string (S (p ++ [97]))] w (RetInts w (ruleAw (p ++ [97]).reverse E xs)) := by
  have hS1 := S_size
  have hS2 : ∀ (l : List UInt8) (k : Nat) (h : k < (S l).size), (S l)[k]'h = l[k]'(by rw [S_size] at h; exact h) := fun _ _ h => S_at2 h
  have HCB := Lib.hid hok
  have hbd := caseOk_bd hok
  have hpl : (p ++ [97]).length = p.length + 1 := last_size8 p 97
  have hpl1 : (p.length : Int) < ((p ++ [97]).length : Int) := by omega
  have hp9 : (p ++ [97]).length ≤ 9 := by have e := (rule_letters hrb).2.2; omega
  clear hpl
  have HRB := Lib.hid hrb
  clear hrb hok
  go_enter Try.func14, Try.ntmps14
  have o1_ := h.alloc (by first | omega | (simp; omega) | simp) (.cells #[.int .i64 E, .slice A xs.length c] 28)
  have B2_ := (Below.refl w.heap.size w).alloc (Nat.le_refl _) (.cells #[.int .i64 E, .slice A xs.length c] 28)
  have a3_ : (w.alloc (.cells #[.int .i64 E, .slice A xs.length c] 28)).cell? ⟨w.heap.size, 0, none⟩ = some (.int .i64 E) := by simp [go_sem]
  have a4_ : (w.alloc (.cells #[.int .i64 E, .slice A xs.length c] 28)).cell? ⟨w.heap.size, 1, none⟩ = some (.slice A xs.length c) := by simp [go_sem]
  go_wp2_with fail
  refine (implCaseOk_any E A c xs _ _ _ o1_ (by first | omega | (simp; omega) | simp) (by omega)).mono ?_
  rintro e w5 ⟨he, hb5_⟩
  rw [HCB.out] at he
  subst he
  have o6_ := o1_.below hb5_ (by first | omega | (simp; omega) | simp)
  have o7_ := (hb5_.cell (p := ⟨w.heap.size, 0, none⟩) (by first | omega | (simp; omega) | simp)).trans a3_
  have o8_ := (hb5_.cell (p := ⟨w.heap.size, 1, none⟩) (by first | omega | (simp; omega) | simp)).trans a4_
  have z9_ := hb5_.size
  try simp at z9_
  have B10_ := B2_.trans (hb5_.mono (by first | omega | (simp; omega) | simp))
  clear hb5_
  go_wp2_with fail
  refine (implRuleOk_same (p ++ [97]) _ (by omega)).mono ?_
  rintro e w' ⟨he, rfl⟩
  rw [HRB.out] at he
  subst he
  have v11_i : (p.length : Int) < ((p ++ [97]).length : Int) := by omega
  have v11_j : (0 : Int) ≤ (p.length : Int) := by omega
  have v11_k : p.length < (p ++ [97]).length := by omega
  have hv11_ : ((((p ++ [97])[p.length]'v11_k).toNat : Nat) : Int) = 97 := by rw [List.getElem_concat_length rfl]; rfl
  go_wp2_with fail
  refine (implArr_in E A c xs _ _ _ o6_ (by first | omega | (simp; omega) | simp) HCB.out).mono ?_
  rintro e w12 ⟨A13_, c14_, rfl, ho15_, hb12_⟩
  have o16_ := o6_.below hb12_ (by first | omega | (simp; omega) | simp)
  have o17_ := (hb12_.cell (p := ⟨w.heap.size, 0, none⟩) (by first | omega | (simp; omega) | simp)).trans o7_
  have o18_ := (hb12_.cell (p := ⟨w.heap.size, 1, none⟩) (by first | omega | (simp; omega) | simp)).trans o8_
  have z19_ := hb12_.size
  have B20_ := B10_.trans (hb12_.mono (by first | omega | (simp; omega) | simp))
  clear hb12_
  have hrev : (p ++ [97]).reverse = 97 :: p.reverse := by simp
  have hfin : ruleAw (p ++ [97]).reverse E xs = arr E xs := by rw [hrev]; rfl
  have HFIN := Lib.hid hfin
  clear hfin hrev
  go_wp2
  go_ret
  rw [HFIN.out]
  exact ⟨A13_, c14_, rfl, ho15_.more (by omega) (Nat.le_refl _), B20_⟩

set_option maxRecDepth 10000 in
set_option maxHeartbeats 2000000 in
theorem implRuleAwards_d (E : Int) (A : Option Addr) (c : Nat) (xs : List Int) (p : List UInt8) (Y : List Int) (w : World) (lo hi : Nat) (h : Ints w lo hi A xs) (hh : hi ≤ w.heap.size) (hok : caseOkB E xs = true) (hrb : ruleB (p ++ [100]) = true) (hyr : ∀ k, 0 ≤ Y.getD k 0 ∧ Y.getD k 0 ≤ 2304) (hyl : Y.length = xs.length) (haw : awardsB (xs.sum - E) xs Y = true) (rec_ : ∀ (A : Option Addr) (c : Nat) (w : World) (lo hi : Nat), Ints w lo hi A xs → hi ≤ w.heap.size → Calls Try.prog 14 #[.agg #[.int .i64 (xs.sum - E), .slice A xs.length c], .string (S p)] w (RetInts w Y)) :
    Calls Try.prog 14 #[.agg #[.int .i64 E, .slice A xs.length c], .string (S (p ++ [100]))] w (RetInts w (lossesRow xs Y)) := by
  have hS1 := S_size
  have hS2 : ∀ (l : List UInt8) (k : Nat) (h : k < (S l).size), (S l)[k]'h = l[k]'(by rw [S_size] at h; exact h) := fun _ _ h => S_at2 h
  have HCB := Lib.hid hok
  have hbd := caseOk_bd hok
  have hpl : (p ++ [100]).length = p.length + 1 := last_size8 p 100
  have hpl1 : (p.length : Int) < ((p ++ [100]).length : Int) := by omega
  have hp9 : (p ++ [100]).length ≤ 9 := by have e := (rule_letters hrb).2.2; omega
  clear hpl
  have HRB := Lib.hid hrb
  clear hrb hok
  have HYR : Hid (∀ k, 0 ≤ Y.getD k 0 ∧ Y.getD k 0 ≤ 2304) := hyr
  have HYL := Lib.hid hyl
  have HAW := Lib.hid haw
  clear hyr hyl haw
  go_enter Try.func14, Try.ntmps14
  have o1_ := h.alloc (by first | omega | (simp; omega) | simp) (.cells #[.int .i64 E, .slice A xs.length c] 28)
  have B2_ := (Below.refl w.heap.size w).alloc (Nat.le_refl _) (.cells #[.int .i64 E, .slice A xs.length c] 28)
  have a3_ : (w.alloc (.cells #[.int .i64 E, .slice A xs.length c] 28)).cell? ⟨w.heap.size, 0, none⟩ = some (.int .i64 E) := by simp [go_sem]
  have a4_ : (w.alloc (.cells #[.int .i64 E, .slice A xs.length c] 28)).cell? ⟨w.heap.size, 1, none⟩ = some (.slice A xs.length c) := by simp [go_sem]
  go_wp2_with fail
  refine (implCaseOk_any E A c xs _ _ _ o1_ (by first | omega | (simp; omega) | simp) (by omega)).mono ?_
  rintro e w5 ⟨he, hb5_⟩
  rw [HCB.out] at he
  subst he
  have o6_ := o1_.below hb5_ (by first | omega | (simp; omega) | simp)
  have o7_ := (hb5_.cell (p := ⟨w.heap.size, 0, none⟩) (by first | omega | (simp; omega) | simp)).trans a3_
  have o8_ := (hb5_.cell (p := ⟨w.heap.size, 1, none⟩) (by first | omega | (simp; omega) | simp)).trans a4_
  have z9_ := hb5_.size
  try simp at z9_
  have B10_ := B2_.trans (hb5_.mono (by first | omega | (simp; omega) | simp))
  clear hb5_
  go_wp2_with fail
  refine (implRuleOk_same (p ++ [100]) _ (by omega)).mono ?_
  rintro e w' ⟨he, rfl⟩
  rw [HRB.out] at he
  subst he
  have v11_i : (p.length : Int) < ((p ++ [100]).length : Int) := by omega
  have v11_j : (0 : Int) ≤ (p.length : Int) := by omega
  have v11_k : p.length < (p ++ [100]).length := by omega
  have hv11_ : ((((p ++ [100])[p.length]'v11_k).toNat : Nat) : Int) = 100 := by rw [List.getElem_concat_length rfl]; rfl
  have hx12_m : (p.length : Int) ≤ ((p.length : Int) + 1) := by omega
  have hx12_l : (p.length : Int) ≤ ((p ++ [100]).length : Int) := by omega
  have hx12_g : (0 : Int) ≤ (p.length : Int) := by omega
  have hx12_ : (S (p ++ [100])).extract 0 p.length = S p := by rw [S_front, List.take_left]
  have g19_ : w.heap.size < w5.heap.size := (by first | omega | (simp; omega) | simp)
  have g20_ : hi ≤ w5.heap.size := (by first | omega | (simp; omega) | simp)
  have g21_ : w.heap.size ≤ w5.heap.size := (by first | omega | (simp; omega) | simp)
  go_wp2_with fail
  refine wp_region_held_drew (S := (fun w' : World => Below w.heap.size w w' ∧ w5.heap.size ≤ w'.heap.size ∧ Ints w' (lo) (hi) A xs ∧ w'.cell? ⟨w.heap.size, 0, none⟩ = some (.int .i64 E) ∧ w'.cell? ⟨w.heap.size, 1, none⟩ = some (.slice A xs.length c) ∧ w5.heap.size ≤ w'.heap.size)) (by kernel_rfl) ⟨B10_.drew, by exact (by first | omega | (simp; omega) | simp), o6_, o7_, o8_, Nat.le_refl _⟩ (fun hHeld => ?_)
  refine wpAnyH_take (i := 0) (oi := ?oi1) (v := ?vv1) ?hi1 ?hs1 ?hf1 ?ha1 ?hq1 ?hy1 hHeld ?hr1
  case hi1 => (simp only [List.getElem?_toArray, List.getElem?_cons_zero]; exact rfl)
  case hs1 => kernel_rfl
  case hf1 => kernel_rfl
  case ha1 => kernel_rfl
  case hq1 => exact fun _ _ _ h => h
  case hy1 =>
    refine Or.inl ⟨by rfl, ?_⟩
    intro w' hSw
    try dsimp only at hSw
    go_simp
    first | done | with_reducible rfl
  simp only [Act.put, List.setIfInBounds_toArray, List.set_cons_succ, List.set_cons_zero]
  refine wpAnyH_take (i := 1) (oi := ?oi2) (v := ?vv2) ?hi2 ?hs2 ?hf2 ?ha2 ?hq2 ?hy2 hHeld ?hr2
  case hi2 => (simp only [List.getElem?_toArray, List.getElem?_cons_succ, List.getElem?_cons_zero]; exact rfl)
  case hs2 => kernel_rfl
  case hf2 => kernel_rfl
  case ha2 => kernel_rfl
  case hq2 => exact fun _ _ _ h => h
  case hy2 =>
    refine Or.inl ⟨by rfl, ?_⟩
    intro w' hSw
    try dsimp only at hSw
    go_simp
    first | done | with_reducible rfl
  simp only [Act.put, List.setIfInBounds_toArray, List.set_cons_succ, List.set_cons_zero]
  refine wpAnyH_take (i := 2) (oi := ?oi3) (v := ?vv3) ?hi3 ?hs3 ?hf3 ?ha3 ?hq3 ?hy3 hHeld ?hr3
  case hi3 => (simp only [List.getElem?_toArray, List.getElem?_cons_succ, List.getElem?_cons_zero]; exact rfl)
  case hs3 => kernel_rfl
  case hf3 => kernel_rfl
  case ha3 => kernel_rfl
  case hq3 => exact fun _ _ _ h => h
  case hy3 =>
    refine Or.inl ⟨by rfl, ?_⟩
    intro w' hSw
    try dsimp only at hSw
    go_simp
    first | done | with_reducible rfl
  simp only [Act.put, List.setIfInBounds_toArray, List.set_cons_succ, List.set_cons_zero]
  refine wpAnyH_take (i := 3) (oi := ?oi4) (v := ?vv4) ?hi4 ?hs4 ?hf4 ?ha4 ?hq4 ?hy4 hHeld ?hr4
  case hi4 => (simp only [List.getElem?_toArray, List.getElem?_cons_succ, List.getElem?_cons_zero]; exact rfl)
  case hs4 => kernel_rfl
  case hf4 => kernel_rfl
  case ha4 => kernel_rfl
  case hq4 => exact fun _ _ _ h => h
  case hy4 =>
    refine Or.inl ⟨by rfl, ?_⟩
    intro w' hSw
    try dsimp only at hSw
    go_simp
    first | done | with_reducible rfl
  simp only [Act.put, List.setIfInBounds_toArray, List.set_cons_succ, List.set_cons_zero]
  refine wpAnyH_ready (rs := [4]) (by kernel_rfl) (by simp) ?_
  refine AllReadyH.cons rfl (fun K hK => ?_) AllReadyH.nil
  go_simp
  go_at_call 39
  obtain ⟨BB, zz, k16_, k17_, k18_, zw⟩ := hHeld
  (with_reducible refine (implRule_d E A c xs p Y _ _ _ k16_ (by first | omega | (simp; omega) | simp) HCB.out HYR.out HYL.out HAW.out rec_).mono ?_)
  rintro e w22 ⟨A13_, c14_, rfl, ho15_, hb9⟩
  have ho15_ := ho15_.more (lo' := w5.heap.size) (by omega) (Nat.le_refl _)
  refine hK.out _ _ ⟨BB.trans (hb9.mono (by omega)), Nat.le_trans zz hb9.size, k16_.below hb9 (by first | omega | (simp; omega) | simp), (hb9.cell (p := ⟨w.heap.size, 0, none⟩) (by first | omega | (simp; omega) | simp)).trans k17_, (hb9.cell (p := ⟨w.heap.size, 1, none⟩) (by first | omega | (simp; omega) | simp)).trans k18_, Nat.le_trans zw hb9.size⟩ (fun hHeld => ?_)
  clear hb9 zw k18_ k17_ k16_ zz BB
  clear hK K
  try simp only [Act.put, List.setIfInBounds_toArray, List.set_cons_zero, List.set_cons_succ]
  refine wpAnyH_take (i := 5) (oi := ?oi5) (v := ?vv5) ?hi5 ?hs5 ?hf5 ?ha5 ?hq5 ?hy5 hHeld ?hr5
  case hi5 => (simp only [List.getElem?_toArray, List.getElem?_cons_succ, List.getElem?_cons_zero]; exact rfl)
  case hs5 => kernel_rfl
  case hf5 => kernel_rfl
  case ha5 => kernel_rfl
  case hq5 => exact fun _ _ _ h => h
  case hy5 =>
    refine Or.inl ⟨by rfl, ?_⟩
    intro w' hSw
    try dsimp only at hSw
    go_simp
    first | done | with_reducible rfl
  simp only [Act.put, List.setIfInBounds_toArray, List.set_cons_succ, List.set_cons_zero]
  refine wpAnyH_done (by kernel_rfl) ?_ _
  obtain ⟨BB, zz, k16_, k17_, k18_, zw⟩ := hHeld
  have k23_ := BB
  clear BB
  have k24_ := zz
  clear zz
  have k25_ := zw
  clear zw
  have hrev : (p ++ [100]).reverse = 100 :: p.reverse := by simp
  go_wp2
  go_ret
  exact ⟨A13_, c14_, rfl, ho15_.more (by omega) (Nat.le_refl _), k23_⟩

set_option maxRecDepth 10000 in
set_option maxHeartbeats 2000000 in
theorem implRuleAwards_c (E : Int) (A : Option Addr) (c : Nat) (xs : List Int) (p : List UInt8) (Y : List Int) (w : World) (lo hi : Nat) (h : Ints w lo hi A xs) (hh : hi ≤ w.heap.size) (hok : caseOkB E xs = true) (hrb : ruleB (p ++ [99]) = true) (hyr : ∀ k, 0 ≤ Y.getD k 0 ∧ Y.getD k 0 ≤ 2304) (hyl : Y.length = xs.length) (haw : awardsB E (cutRow E xs) Y = true) (rec_ : ∀ (A : Option Addr) (c : Nat) (w : World) (lo hi : Nat), Ints w lo hi A (cutRow E xs) → hi ≤ w.heap.size → Calls Try.prog 14 #[.agg #[.int .i64 E, .slice A (cutRow E xs).length c], .string (S p)] w (RetInts w Y)) :
    Calls Try.prog 14 #[.agg #[.int .i64 E, .slice A xs.length c], .string (S (p ++ [99]))] w (RetInts w (Y)) := by
  have hS1 := S_size
  have hS2 : ∀ (l : List UInt8) (k : Nat) (h : k < (S l).size), (S l)[k]'h = l[k]'(by rw [S_size] at h; exact h) := fun _ _ h => S_at2 h
  have HCB := Lib.hid hok
  have hbd := caseOk_bd hok
  have hpl : (p ++ [99]).length = p.length + 1 := last_size8 p 99
  have hpl1 : (p.length : Int) < ((p ++ [99]).length : Int) := by omega
  have hp9 : (p ++ [99]).length ≤ 9 := by have e := (rule_letters hrb).2.2; omega
  clear hpl
  have HRB := Lib.hid hrb
  clear hrb hok
  have HYR : Hid (∀ k, 0 ≤ Y.getD k 0 ∧ Y.getD k 0 ≤ 2304) := hyr
  have HYL := Lib.hid hyl
  have HAW := Lib.hid haw
  clear hyr hyl haw
  go_enter Try.func14, Try.ntmps14
  have o1_ := h.alloc (by first | omega | (simp; omega) | simp) (.cells #[.int .i64 E, .slice A xs.length c] 28)
  have B2_ := (Below.refl w.heap.size w).alloc (Nat.le_refl _) (.cells #[.int .i64 E, .slice A xs.length c] 28)
  have a3_ : (w.alloc (.cells #[.int .i64 E, .slice A xs.length c] 28)).cell? ⟨w.heap.size, 0, none⟩ = some (.int .i64 E) := by simp [go_sem]
  have a4_ : (w.alloc (.cells #[.int .i64 E, .slice A xs.length c] 28)).cell? ⟨w.heap.size, 1, none⟩ = some (.slice A xs.length c) := by simp [go_sem]
  go_wp2_with fail
  refine (implCaseOk_any E A c xs _ _ _ o1_ (by first | omega | (simp; omega) | simp) (by omega)).mono ?_
  rintro e w5 ⟨he, hb5_⟩
  rw [HCB.out] at he
  subst he
  have o6_ := o1_.below hb5_ (by first | omega | (simp; omega) | simp)
  have o7_ := (hb5_.cell (p := ⟨w.heap.size, 0, none⟩) (by first | omega | (simp; omega) | simp)).trans a3_
  have o8_ := (hb5_.cell (p := ⟨w.heap.size, 1, none⟩) (by first | omega | (simp; omega) | simp)).trans a4_
  have z9_ := hb5_.size
  try simp at z9_
  have B10_ := B2_.trans (hb5_.mono (by first | omega | (simp; omega) | simp))
  clear hb5_
  go_wp2_with fail
  refine (implRuleOk_same (p ++ [99]) _ (by omega)).mono ?_
  rintro e w' ⟨he, rfl⟩
  rw [HRB.out] at he
  subst he
  have v11_i : (p.length : Int) < ((p ++ [99]).length : Int) := by omega
  have v11_j : (0 : Int) ≤ (p.length : Int) := by omega
  have v11_k : p.length < (p ++ [99]).length := by omega
  have hv11_ : ((((p ++ [99])[p.length]'v11_k).toNat : Nat) : Int) = 99 := by rw [List.getElem_concat_length rfl]; rfl
  have hx12_m : (p.length : Int) ≤ ((p.length : Int) + 1) := by omega
  have hx12_l : (p.length : Int) ≤ ((p ++ [99]).length : Int) := by omega
  have hx12_g : (0 : Int) ≤ (p.length : Int) := by omega
  have hx12_ : (S (p ++ [99])).extract 0 p.length = S p := by rw [S_front, List.take_left]
  have g19_ : w.heap.size < w5.heap.size := (by first | omega | (simp; omega) | simp)
  have g20_ : hi ≤ w5.heap.size := (by first | omega | (simp; omega) | simp)
  have g21_ : w.heap.size ≤ w5.heap.size := (by first | omega | (simp; omega) | simp)
  go_wp2_with fail
  refine wp_region_held_drew (S := (fun w' : World => Below w.heap.size w w' ∧ w5.heap.size ≤ w'.heap.size ∧ Ints w' (lo) (hi) A xs ∧ w'.cell? ⟨w.heap.size, 0, none⟩ = some (.int .i64 E) ∧ w'.cell? ⟨w.heap.size, 1, none⟩ = some (.slice A xs.length c) ∧ w5.heap.size ≤ w'.heap.size)) (by kernel_rfl) ⟨B10_.drew, by exact (by first | omega | (simp; omega) | simp), o6_, o7_, o8_, Nat.le_refl _⟩ (fun hHeld => ?_)
  refine wpAnyH_take (i := 0) (oi := ?oi1) (v := ?vv1) ?hi1 ?hs1 ?hf1 ?ha1 ?hq1 ?hy1 hHeld ?hr1
  case hi1 => (simp only [List.getElem?_toArray, List.getElem?_cons_zero]; exact rfl)
  case hs1 => kernel_rfl
  case hf1 => kernel_rfl
  case ha1 => kernel_rfl
  case hq1 => exact fun _ _ _ h => h
  case hy1 =>
    refine Or.inl ⟨by rfl, ?_⟩
    intro w' hSw
    try dsimp only at hSw
    go_simp
    first | done | with_reducible rfl
  simp only [Act.put, List.setIfInBounds_toArray, List.set_cons_succ, List.set_cons_zero]
  refine wpAnyH_take (i := 1) (oi := ?oi2) (v := ?vv2) ?hi2 ?hs2 ?hf2 ?ha2 ?hq2 ?hy2 hHeld ?hr2
  case hi2 => (simp only [List.getElem?_toArray, List.getElem?_cons_succ, List.getElem?_cons_zero]; exact rfl)
  case hs2 => kernel_rfl
  case hf2 => kernel_rfl
  case ha2 => kernel_rfl
  case hq2 => exact fun _ _ _ h => h
  case hy2 =>
    refine Or.inl ⟨by rfl, ?_⟩
    intro w' hSw
    try dsimp only at hSw
    go_simp
    first | done | with_reducible rfl
  simp only [Act.put, List.setIfInBounds_toArray, List.set_cons_succ, List.set_cons_zero]
  refine wpAnyH_take (i := 2) (oi := ?oi3) (v := ?vv3) ?hi3 ?hs3 ?hf3 ?ha3 ?hq3 ?hy3 hHeld ?hr3
  case hi3 => (simp only [List.getElem?_toArray, List.getElem?_cons_succ, List.getElem?_cons_zero]; exact rfl)
  case hs3 => kernel_rfl
  case hf3 => kernel_rfl
  case ha3 => kernel_rfl
  case hq3 => exact fun _ _ _ h => h
  case hy3 =>
    refine Or.inl ⟨by rfl, ?_⟩
    intro w' hSw
    try dsimp only at hSw
    go_simp
    first | done | with_reducible rfl
  simp only [Act.put, List.setIfInBounds_toArray, List.set_cons_succ, List.set_cons_zero]
  refine wpAnyH_take (i := 3) (oi := ?oi4) (v := ?vv4) ?hi4 ?hs4 ?hf4 ?ha4 ?hq4 ?hy4 hHeld ?hr4
  case hi4 => (simp only [List.getElem?_toArray, List.getElem?_cons_succ, List.getElem?_cons_zero]; exact rfl)
  case hs4 => kernel_rfl
  case hf4 => kernel_rfl
  case ha4 => kernel_rfl
  case hq4 => exact fun _ _ _ h => h
  case hy4 =>
    refine Or.inl ⟨by rfl, ?_⟩
    intro w' hSw
    try dsimp only at hSw
    go_simp
    first | done | with_reducible rfl
  simp only [Act.put, List.setIfInBounds_toArray, List.set_cons_succ, List.set_cons_zero]
  refine wpAnyH_ready (rs := [4]) (by kernel_rfl) (by simp) ?_
  refine AllReadyH.cons rfl (fun K hK => ?_) AllReadyH.nil
  go_simp
  go_at_call 40
  obtain ⟨BB, zz, k16_, k17_, k18_, zw⟩ := hHeld
  (with_reducible refine (implRule_c E A c xs p Y _ _ _ k16_ (by first | omega | (simp; omega) | simp) HCB.out HYR.out HYL.out HAW.out rec_).mono ?_)
  rintro e w22 ⟨A13_, c14_, rfl, ho15_, hb9⟩
  have ho15_ := ho15_.more (lo' := w5.heap.size) (by omega) (Nat.le_refl _)
  refine hK.out _ _ ⟨BB.trans (hb9.mono (by omega)), Nat.le_trans zz hb9.size, k16_.below hb9 (by first | omega | (simp; omega) | simp), (hb9.cell (p := ⟨w.heap.size, 0, none⟩) (by first | omega | (simp; omega) | simp)).trans k17_, (hb9.cell (p := ⟨w.heap.size, 1, none⟩) (by first | omega | (simp; omega) | simp)).trans k18_, Nat.le_trans zw hb9.size⟩ (fun hHeld => ?_)
  clear hb9 zw k18_ k17_ k16_ zz BB
  clear hK K
  try simp only [Act.put, List.setIfInBounds_toArray, List.set_cons_zero, List.set_cons_succ]
  refine wpAnyH_take (i := 5) (oi := ?oi5) (v := ?vv5) ?hi5 ?hs5 ?hf5 ?ha5 ?hq5 ?hy5 hHeld ?hr5
  case hi5 => (simp only [List.getElem?_toArray, List.getElem?_cons_succ, List.getElem?_cons_zero]; exact rfl)
  case hs5 => kernel_rfl
  case hf5 => kernel_rfl
  case ha5 => kernel_rfl
  case hq5 => exact fun _ _ _ h => h
  case hy5 =>
    refine Or.inl ⟨by rfl, ?_⟩
    intro w' hSw
    try dsimp only at hSw
    go_simp
    first | done | with_reducible rfl
  simp only [Act.put, List.setIfInBounds_toArray, List.set_cons_succ, List.set_cons_zero]
  refine wpAnyH_done (by kernel_rfl) ?_ _
  obtain ⟨BB, zz, k16_, k17_, k18_, zw⟩ := hHeld
  have k23_ := BB
  clear BB
  have k24_ := zz
  clear zz
  have k25_ := zw
  clear zw
  have hrev : (p ++ [99]).reverse = 99 :: p.reverse := by simp
  go_wp2
  go_ret
  exact ⟨A13_, c14_, rfl, ho15_.more (by omega) (Nat.le_refl _), k23_⟩

set_option maxRecDepth 10000 in
set_option maxHeartbeats 2000000 in
theorem implRuleAwards_r (E : Int) (A : Option Addr) (c : Nat) (xs : List Int) (p : List UInt8) (Y : List Int) (w : World) (lo hi : Nat) (h : Ints w lo hi A xs) (hh : hi ≤ w.heap.size) (hok : caseOkB E xs = true) (hrb : ruleB (p ++ [114]) = true) (hyr : ∀ k, 0 ≤ Y.getD k 0 ∧ Y.getD k 0 ≤ 2304) (hyl : Y.length = xs.length) (haw : awardsB (E - (rightsRow E xs).sum) (cutRow (xs.sum - E) xs) Y = true) (rec_ : ∀ (A : Option Addr) (c : Nat) (w : World) (lo hi : Nat), Ints w lo hi A (cutRow (xs.sum - E) xs) → hi ≤ w.heap.size → Calls Try.prog 14 #[.agg #[.int .i64 (E - (rightsRow E xs).sum), .slice A (cutRow (xs.sum - E) xs).length c], .string (S p)] w (RetInts w Y)) :
    Calls Try.prog 14 #[.agg #[.int .i64 E, .slice A xs.length c], .string (S (p ++ [114]))] w (RetInts w (plusR (rightsRow E xs) Y)) := by
  have hS1 := S_size
  have hS2 : ∀ (l : List UInt8) (k : Nat) (h : k < (S l).size), (S l)[k]'h = l[k]'(by rw [S_size] at h; exact h) := fun _ _ h => S_at2 h
  have HCB := Lib.hid hok
  have hbd := caseOk_bd hok
  have hpl : (p ++ [114]).length = p.length + 1 := last_size8 p 114
  have hpl1 : (p.length : Int) < ((p ++ [114]).length : Int) := by omega
  have hp9 : (p ++ [114]).length ≤ 9 := by have e := (rule_letters hrb).2.2; omega
  clear hpl
  have HRB := Lib.hid hrb
  clear hrb hok
  have HYR : Hid (∀ k, 0 ≤ Y.getD k 0 ∧ Y.getD k 0 ≤ 2304) := hyr
  have HYL := Lib.hid hyl
  have HAW := Lib.hid haw
  clear hyr hyl haw
  go_enter Try.func14, Try.ntmps14
  have o1_ := h.alloc (by first | omega | (simp; omega) | simp) (.cells #[.int .i64 E, .slice A xs.length c] 28)
  have B2_ := (Below.refl w.heap.size w).alloc (Nat.le_refl _) (.cells #[.int .i64 E, .slice A xs.length c] 28)
  have a3_ : (w.alloc (.cells #[.int .i64 E, .slice A xs.length c] 28)).cell? ⟨w.heap.size, 0, none⟩ = some (.int .i64 E) := by simp [go_sem]
  have a4_ : (w.alloc (.cells #[.int .i64 E, .slice A xs.length c] 28)).cell? ⟨w.heap.size, 1, none⟩ = some (.slice A xs.length c) := by simp [go_sem]
  go_wp2_with fail
  refine (implCaseOk_any E A c xs _ _ _ o1_ (by first | omega | (simp; omega) | simp) (by omega)).mono ?_
  rintro e w5 ⟨he, hb5_⟩
  rw [HCB.out] at he
  subst he
  have o6_ := o1_.below hb5_ (by first | omega | (simp; omega) | simp)
  have o7_ := (hb5_.cell (p := ⟨w.heap.size, 0, none⟩) (by first | omega | (simp; omega) | simp)).trans a3_
  have o8_ := (hb5_.cell (p := ⟨w.heap.size, 1, none⟩) (by first | omega | (simp; omega) | simp)).trans a4_
  have z9_ := hb5_.size
  try simp at z9_
  have B10_ := B2_.trans (hb5_.mono (by first | omega | (simp; omega) | simp))
  clear hb5_
  go_wp2_with fail
  refine (implRuleOk_same (p ++ [114]) _ (by omega)).mono ?_
  rintro e w' ⟨he, rfl⟩
  rw [HRB.out] at he
  subst he
  have v11_i : (p.length : Int) < ((p ++ [114]).length : Int) := by omega
  have v11_j : (0 : Int) ≤ (p.length : Int) := by omega
  have v11_k : p.length < (p ++ [114]).length := by omega
  have hv11_ : ((((p ++ [114])[p.length]'v11_k).toNat : Nat) : Int) = 114 := by rw [List.getElem_concat_length rfl]; rfl
  have hx12_m : (p.length : Int) ≤ ((p.length : Int) + 1) := by omega
  have hx12_l : (p.length : Int) ≤ ((p ++ [114]).length : Int) := by omega
  have hx12_g : (0 : Int) ≤ (p.length : Int) := by omega
  have hx12_ : (S (p ++ [114])).extract 0 p.length = S p := by rw [S_front, List.take_left]
  have g19_ : w.heap.size < w5.heap.size := (by first | omega | (simp; omega) | simp)
  have g20_ : hi ≤ w5.heap.size := (by first | omega | (simp; omega) | simp)
  have g21_ : w.heap.size ≤ w5.heap.size := (by first | omega | (simp; omega) | simp)
  go_wp2_with fail
  refine wp_region_held_drew (S := (fun w' : World => Below w.heap.size w w' ∧ w5.heap.size ≤ w'.heap.size ∧ Ints w' (lo) (hi) A xs ∧ w'.cell? ⟨w.heap.size, 0, none⟩ = some (.int .i64 E) ∧ w'.cell? ⟨w.heap.size, 1, none⟩ = some (.slice A xs.length c) ∧ w5.heap.size ≤ w'.heap.size)) (by kernel_rfl) ⟨B10_.drew, by exact (by first | omega | (simp; omega) | simp), o6_, o7_, o8_, Nat.le_refl _⟩ (fun hHeld => ?_)
  refine wpAnyH_take (i := 0) (oi := ?oi1) (v := ?vv1) ?hi1 ?hs1 ?hf1 ?ha1 ?hq1 ?hy1 hHeld ?hr1
  case hi1 => (simp only [List.getElem?_toArray, List.getElem?_cons_zero]; exact rfl)
  case hs1 => kernel_rfl
  case hf1 => kernel_rfl
  case ha1 => kernel_rfl
  case hq1 => exact fun _ _ _ h => h
  case hy1 =>
    refine Or.inl ⟨by rfl, ?_⟩
    intro w' hSw
    try dsimp only at hSw
    go_simp
    first | done | with_reducible rfl
  simp only [Act.put, List.setIfInBounds_toArray, List.set_cons_succ, List.set_cons_zero]
  refine wpAnyH_take (i := 1) (oi := ?oi2) (v := ?vv2) ?hi2 ?hs2 ?hf2 ?ha2 ?hq2 ?hy2 hHeld ?hr2
  case hi2 => (simp only [List.getElem?_toArray, List.getElem?_cons_succ, List.getElem?_cons_zero]; exact rfl)
  case hs2 => kernel_rfl
  case hf2 => kernel_rfl
  case ha2 => kernel_rfl
  case hq2 => exact fun _ _ _ h => h
  case hy2 =>
    refine Or.inl ⟨by rfl, ?_⟩
    intro w' hSw
    try dsimp only at hSw
    go_simp
    first | done | with_reducible rfl
  simp only [Act.put, List.setIfInBounds_toArray, List.set_cons_succ, List.set_cons_zero]
  refine wpAnyH_take (i := 2) (oi := ?oi3) (v := ?vv3) ?hi3 ?hs3 ?hf3 ?ha3 ?hq3 ?hy3 hHeld ?hr3
  case hi3 => (simp only [List.getElem?_toArray, List.getElem?_cons_succ, List.getElem?_cons_zero]; exact rfl)
  case hs3 => kernel_rfl
  case hf3 => kernel_rfl
  case ha3 => kernel_rfl
  case hq3 => exact fun _ _ _ h => h
  case hy3 =>
    refine Or.inl ⟨by rfl, ?_⟩
    intro w' hSw
    try dsimp only at hSw
    go_simp
    first | done | with_reducible rfl
  simp only [Act.put, List.setIfInBounds_toArray, List.set_cons_succ, List.set_cons_zero]
  refine wpAnyH_take (i := 3) (oi := ?oi4) (v := ?vv4) ?hi4 ?hs4 ?hf4 ?ha4 ?hq4 ?hy4 hHeld ?hr4
  case hi4 => (simp only [List.getElem?_toArray, List.getElem?_cons_succ, List.getElem?_cons_zero]; exact rfl)
  case hs4 => kernel_rfl
  case hf4 => kernel_rfl
  case ha4 => kernel_rfl
  case hq4 => exact fun _ _ _ h => h
  case hy4 =>
    refine Or.inl ⟨by rfl, ?_⟩
    intro w' hSw
    try dsimp only at hSw
    go_simp
    first | done | with_reducible rfl
  simp only [Act.put, List.setIfInBounds_toArray, List.set_cons_succ, List.set_cons_zero]
  refine wpAnyH_ready (rs := [4]) (by kernel_rfl) (by simp) ?_
  refine AllReadyH.cons rfl (fun K hK => ?_) AllReadyH.nil
  go_simp
  go_at_call 41
  obtain ⟨BB, zz, k16_, k17_, k18_, zw⟩ := hHeld
  (with_reducible refine (implRule_r E A c xs p Y _ _ _ k16_ (by first | omega | (simp; omega) | simp) HCB.out HYR.out HYL.out HAW.out rec_).mono ?_)
  rintro e w22 ⟨A13_, c14_, rfl, ho15_, hb9⟩
  have ho15_ := ho15_.more (lo' := w5.heap.size) (by omega) (Nat.le_refl _)
  refine hK.out _ _ ⟨BB.trans (hb9.mono (by omega)), Nat.le_trans zz hb9.size, k16_.below hb9 (by first | omega | (simp; omega) | simp), (hb9.cell (p := ⟨w.heap.size, 0, none⟩) (by first | omega | (simp; omega) | simp)).trans k17_, (hb9.cell (p := ⟨w.heap.size, 1, none⟩) (by first | omega | (simp; omega) | simp)).trans k18_, Nat.le_trans zw hb9.size⟩ (fun hHeld => ?_)
  clear hb9 zw k18_ k17_ k16_ zz BB
  clear hK K
  try simp only [Act.put, List.setIfInBounds_toArray, List.set_cons_zero, List.set_cons_succ]
  refine wpAnyH_take (i := 5) (oi := ?oi5) (v := ?vv5) ?hi5 ?hs5 ?hf5 ?ha5 ?hq5 ?hy5 hHeld ?hr5
  case hi5 => (simp only [List.getElem?_toArray, List.getElem?_cons_succ, List.getElem?_cons_zero]; exact rfl)
  case hs5 => kernel_rfl
  case hf5 => kernel_rfl
  case ha5 => kernel_rfl
  case hq5 => exact fun _ _ _ h => h
  case hy5 =>
    refine Or.inl ⟨by rfl, ?_⟩
    intro w' hSw
    try dsimp only at hSw
    go_simp
    first | done | with_reducible rfl
  simp only [Act.put, List.setIfInBounds_toArray, List.set_cons_succ, List.set_cons_zero]
  refine wpAnyH_done (by kernel_rfl) ?_ _
  obtain ⟨BB, zz, k16_, k17_, k18_, zw⟩ := hHeld
  have k23_ := BB
  clear BB
  have k24_ := zz
  clear zz
  have k25_ := zw
  clear zw
  have hrev : (p ++ [114]).reverse = 114 :: p.reverse := by simp
  go_wp2
  go_ret
  exact ⟨A13_, c14_, rfl, ho15_.more (by omega) (Nat.le_refl _), k23_⟩

theorem implRuleAwards_in : ∀ (m : Nat) (l : List UInt8), l.length = m → ruleB l = true → ∀ (E : Int) (A : Option Addr) (c : Nat) (xs : List Int) (w : World) (lo hi : Nat), Ints w lo hi A xs → hi ≤ w.heap.size → caseOkB E xs = true →
    Calls Try.prog 14 #[.agg #[.int .i64 E, .slice A xs.length c], .string (S l)] w (RetInts w (ruleAw l.reverse E xs)) := by
  intro m
  induction m with
  | zero => intro l hl hok; rw [List.eq_nil_of_length_eq_zero hl] at hok; cases hok
  | succ m ih =>
    intro l hl hok E A c xs w lo hi h hh hc
    have hne : l ≠ [] := fun e => by rw [e] at hl; simp at hl
    obtain ⟨p, x, rfl⟩ : ∃ p x, l = p ++ [x] := ⟨l.dropLast, l.getLast hne, (List.dropLast_concat_getLast hne).symm⟩
    have hp : p.length = m := by simpa using hl
    have hrev : ∀ y, (p ++ [y]).reverse = y :: p.reverse := fun y => by simp
    have hx : firstL x = true ∨ turnL x = true := by
      have e := (rule_letters hok).1 p.length (by simp)
      have g : (p ++ [x]).getD p.length 0 = x := by simp [List.getD]
      rw [g] at e
      rcases Nat.eq_zero_or_pos p.length with q | q
      · exact Or.inl (e.1 q)
      · exact Or.inr (e.2 q)
    rcases hx with hx | hx
    · rcases firstL_iff.1 hx with rfl | rfl | rfl | rfl
      · exact implRuleAwards_e E A c xs p w lo hi h hh hc hok
      · exact implRuleAwards_l E A c xs p w lo hi h hh hc hok
      · exact implRuleAwards_h E A c xs p w lo hi h hh hc hok
      · exact implRuleAwards_a E A c xs p w lo hi h hh hc hok
    · have hpn : p ≠ [] := fun e => by
        have q := (rule_letters hok).1 0 (by simp)
        rw [e] at q
        have z := q.1 rfl
        rw [show ([] ++ [x] : List UInt8).getD 0 0 = x from rfl] at z
        rw [first_no_turn z] at hx; cases hx
      have hrp := ruleB_front hok hpn
      have ih := ih p hp hrp
      rw [hrev]
      rcases turnL_iff.1 hx with rfl | rfl | rfl
      · rw [aw_d]
        have hc2 := other_ok hc
        exact implRuleAwards_d E A c xs p _ w lo hi h hh hc hok (rule_rg (ruleB_okR hrp) hc2) (rule_len (ruleB_okR hrp) hc2) ((awardsB_iff _ _ _).2 (rule_aw (ruleB_okR hrp) hc2)) fun A c w lo hi h1 h2 => ih _ A c _ w lo hi h1 h2 hc2
      · rw [aw_c]
        have hc2 := cut_ok hc
        exact implRuleAwards_c E A c xs p _ w lo hi h hh hc hok (rule_rg (ruleB_okR hrp) hc2) ((rule_len (ruleB_okR hrp) hc2).trans (cutRow_length _ _)) ((awardsB_iff _ _ _).2 (rule_aw (ruleB_okR hrp) hc2)) fun A c w lo hi h1 h2 => ih _ A c _ w lo hi h1 h2 hc2
      · rw [aw_r]
        have hc2 := rest_ok hc
        exact implRuleAwards_r E A c xs p _ w lo hi h hh hc hok (rule_rg (ruleB_okR hrp) hc2) ((rule_len (ruleB_okR hrp) hc2).trans (cutRow_length _ _)) ((awardsB_iff _ _ _).2 (rule_aw (ruleB_okR hrp) hc2)) fun A c w lo hi h1 h2 => ih _ A c _ w lo hi h1 h2 hc2

set_option maxRecDepth 10000 in
set_option maxHeartbeats 1000000 in
theorem implRuleAwards_yn (E : Int) (A : Option Addr) (c : Nat) (xs : List Int) (l : List UInt8) (w : World) (lo hi : Nat) (h : Ints w lo hi A xs) (hh : hi ≤ w.heap.size) (hl : xs.length ≤ 1152921504606846976) (hll : l.length ≤ 1152921504606846976) (hok : caseOkB E xs = true) (hrb : ruleB l = false) :
    Calls Try.prog 14 #[.agg #[.int .i64 E, .slice A xs.length c], .string (S l)] w (RetInts w (ruleRow E xs l)) := by
  have hS1 := S_size
  have hS2 : ∀ (l : List UInt8) (k : Nat) (h : k < (S l).size), (S l)[k]'h = l[k]'(by rw [S_size] at h; exact h) := fun _ _ h => S_at2 h
  have HCB := Lib.hid hok
  have HRB := Lib.hid hrb
  clear hrb
  clear hok
  go_enter Try.func14, Try.ntmps14
  have o1_ := h.alloc (by first | omega | (simp; omega) | simp) (.cells #[.int .i64 E, .slice A xs.length c] 28)
  have B2_ := (Below.refl w.heap.size w).alloc (Nat.le_refl _) (.cells #[.int .i64 E, .slice A xs.length c] 28)
  have a3_ : (w.alloc (.cells #[.int .i64 E, .slice A xs.length c] 28)).cell? ⟨w.heap.size, 0, none⟩ = some (.int .i64 E) := by simp [go_sem]
  have a4_ : (w.alloc (.cells #[.int .i64 E, .slice A xs.length c] 28)).cell? ⟨w.heap.size, 1, none⟩ = some (.slice A xs.length c) := by simp [go_sem]
  go_wp2_with fail
  refine (implCaseOk_any E A c xs _ _ _ o1_ (by first | omega | (simp; omega) | simp) hl).mono ?_
  rintro e w5 ⟨he, hb5_⟩
  rw [HCB.out] at he
  subst he
  have o6_ := o1_.below hb5_ (by first | omega | (simp; omega) | simp)
  have o7_ := (hb5_.cell (p := ⟨w.heap.size, 0, none⟩) (by first | omega | (simp; omega) | simp)).trans a3_
  have o8_ := (hb5_.cell (p := ⟨w.heap.size, 1, none⟩) (by first | omega | (simp; omega) | simp)).trans a4_
  have z9_ := hb5_.size
  try simp at z9_
  have B10_ := B2_.trans (hb5_.mono (by first | omega | (simp; omega) | simp))
  clear hb5_
  go_wp2_with fail
  refine (implRuleOk_same l _ hll).mono ?_
  rintro e w' ⟨he, rfl⟩
  rw [HRB.out] at he
  subst he
  go_wp2
  go_ret
  exact retInts_nil (by rw [ruleRow, if_neg (fun q => by have e := q.2; rw [HRB.out] at e; cases e)]) B10_

set_option maxRecDepth 10000 in
set_option maxHeartbeats 1000000 in
theorem implRuleAwards_nn (E : Int) (A : Option Addr) (c : Nat) (xs : List Int) (l : List UInt8) (w : World) (lo hi : Nat) (h : Ints w lo hi A xs) (hh : hi ≤ w.heap.size) (hl : xs.length ≤ 1152921504606846976) (hll : l.length ≤ 1152921504606846976) (hok : caseOkB E xs = false) :
    Calls Try.prog 14 #[.agg #[.int .i64 E, .slice A xs.length c], .string (S l)] w (RetInts w (ruleRow E xs l)) := by
  have hS1 := S_size
  have hS2 : ∀ (l : List UInt8) (k : Nat) (h : k < (S l).size), (S l)[k]'h = l[k]'(by rw [S_size] at h; exact h) := fun _ _ h => S_at2 h
  have HCB := Lib.hid hok
  have hll2 := hll
  clear hok
  go_enter Try.func14, Try.ntmps14
  have o1_ := h.alloc (by first | omega | (simp; omega) | simp) (.cells #[.int .i64 E, .slice A xs.length c] 28)
  have B2_ := (Below.refl w.heap.size w).alloc (Nat.le_refl _) (.cells #[.int .i64 E, .slice A xs.length c] 28)
  have a3_ : (w.alloc (.cells #[.int .i64 E, .slice A xs.length c] 28)).cell? ⟨w.heap.size, 0, none⟩ = some (.int .i64 E) := by simp [go_sem]
  have a4_ : (w.alloc (.cells #[.int .i64 E, .slice A xs.length c] 28)).cell? ⟨w.heap.size, 1, none⟩ = some (.slice A xs.length c) := by simp [go_sem]
  go_wp2_with fail
  refine (implCaseOk_any E A c xs _ _ _ o1_ (by first | omega | (simp; omega) | simp) hl).mono ?_
  rintro e w5 ⟨he, hb5_⟩
  rw [HCB.out] at he
  subst he
  have o6_ := o1_.below hb5_ (by first | omega | (simp; omega) | simp)
  have o7_ := (hb5_.cell (p := ⟨w.heap.size, 0, none⟩) (by first | omega | (simp; omega) | simp)).trans a3_
  have o8_ := (hb5_.cell (p := ⟨w.heap.size, 1, none⟩) (by first | omega | (simp; omega) | simp)).trans a4_
  have z9_ := hb5_.size
  try simp at z9_
  have B10_ := B2_.trans (hb5_.mono (by first | omega | (simp; omega) | simp))
  clear hb5_
  go_wp2
  go_ret
  exact retInts_nil (by rw [ruleRow, if_neg (fun q => by have e := q.1; rw [HCB.out] at e; cases e)]) B10_

theorem implRuleAwards_any (E : Int) (A : Option Addr) (c : Nat) (xs : List Int) (l : List UInt8) (w : World) (lo hi : Nat) (h : Ints w lo hi A xs) (hh : hi ≤ w.heap.size) (hl : xs.length ≤ 1152921504606846976) (hll : l.length ≤ 1152921504606846976) :
    Calls Try.prog 14 #[.agg #[.int .i64 E, .slice A xs.length c], .string (S l)] w (RetInts w (ruleRow E xs l)) := by
  by_cases hok : caseOkB E xs = true
  · by_cases hrb : ruleB l = true
    · rw [show ruleRow E xs l = ruleAw l.reverse E xs from if_pos ⟨hok, hrb⟩]
      exact implRuleAwards_in _ l rfl hrb E A c xs w lo hi h hh hok
    · exact implRuleAwards_yn E A c xs l w lo hi h hh hl hll hok (by simpa using hrb)
  · exact implRuleAwards_nn E A c xs l w lo hi h hh hl hll (by simpa using hok)


end Go.Proofs.Ytkkdolbbioeknaa
