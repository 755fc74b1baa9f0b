/-
  The cases with sets, and with rows, and the pairs of rows that are drawn for chapter 6: small, in new memory. No condition.
-/
import Derived.Test.YthhcjomfpjopdaaDrawP
import Derived.Test.YthhcjomfpjopdaaGrow
import Derived.Test.YthhcjomfpjopdaaFx
import Derived.BigQuiet
import Derived.Deep.Cut
namespace Go.Proofs.Ythhcjomfpjopdaa
open Go.RowKit

def DrawnSet (w : World) (e : Ending) (w' : World) : Prop :=
  ∃ E A c, ∃ xs : List Int, ∃ s : Int, xs.length ≤ 5 ∧ (0 ≤ s ∧ s ≤ 63) ∧ e = .returned (.tuple #[.agg #[.int .i64 E, .slice A xs.length c], .int .i64 s]) ∧ Own w' w.heap.size w'.heap.size A xs ∧ Below w.heap.size w w'
theorem pow_set {n : Nat} (h : n ≤ 5) : 1 ≤ (2 : Int) ^ n ∧ (2 : Int) ^ n ≤ 32 := by
  rcases (show n = 0 ∨ n = 1 ∨ n = 2 ∨ n = 3 ∨ n = 4 ∨ n = 5 from by omega) with rfl | rfl | rfl | rfl | rfl | rfl <;> simp

set_option maxRecDepth 10000 in
set_option maxHeartbeats 2000000 in
theorem drawWorthOf_any (A : Option Addr) (c : Nat) (bs : List Int) (w : World) (h : Bytes w w.heap.size A bs) (hl : bs.length ≤ 9223372036854775807) (hc : bs.length ≤ c) :
    Calls Try.prog 14 #[.slice A bs.length c] w (DrawnSet w) := by
  go_enter Try.func14, Try.ntmps14
  have o1_ := h.below ((Below.refl _ _).alloc (Nat.le_refl _) (.cells #[.int .i64 0, .slice none 0 0] 25)) (by first | omega | (simp; omega) | simp)
  have B2_ := (Below.refl w.heap.size w).alloc (Nat.le_refl _) (.cells #[.int .i64 0, .slice none 0 0] 25)
  have a3_ : (w.alloc (.cells #[.int .i64 0, .slice none 0 0] 25)).cell? ⟨w.heap.size, 0, none⟩ = some (.int .i64 0) := by simp [go_sem]
  have a4_ : (w.alloc (.cells #[.int .i64 0, .slice none 0 0] 25)).cell? ⟨w.heap.size, 1, none⟩ = some (.slice none 0 0) := by simp [go_sem]
  have f5_ : (w.alloc (.cells #[.int .i64 0, .slice none 0 0] 25)).frozen? ⟨w.heap.size, 0, none⟩ = false := by simp [go_sem]
  have f6_ : (w.alloc (.cells #[.int .i64 0, .slice none 0 0] 25)).frozen? ⟨w.heap.size, 1, none⟩ = false := by simp [go_sem]
  go_wp2_with fail
  refine (l20Open_any A c bs _ (o1_.more (by first | omega | (simp; omega) | simp)) (by omega) hc).mono ?_
  rintro e w7 ⟨rfl, hb9_, rc7_, rb7_, rl7_, rd8_⟩
  simp only [hsz] at rd8_
  have o10_ := o1_.below hb9_ (by first | omega | (simp; omega) | simp)
  have o11_ := (hb9_.cell (p := ⟨w.heap.size, 0, none⟩) (by first | omega | (simp; omega) | simp)).trans a3_
  have o12_ := (hb9_.cell (p := ⟨w.heap.size, 1, none⟩) (by first | omega | (simp; omega) | simp)).trans a4_
  have o13_ := (hb9_.frozen (p := ⟨w.heap.size, 0, none⟩) (by first | omega | (simp; omega) | simp)).trans f5_
  have o14_ := (hb9_.frozen (p := ⟨w.heap.size, 1, none⟩) (by first | omega | (simp; omega) | simp)).trans f6_
  have z15_ := hb9_.size
  try simp at z15_
  have B16_ := B2_.trans (hb9_.mono (by first | omega | (simp; omega) | simp))
  clear hb9_
  have l17_ := rd8_.lt
  go_wp2_with fail
  refine (l20Case_anyB (w.heap.size + 1) A rc7_ rb7_ _ 12 _ rd8_ (by omega) (by omega) rl7_ (by omega)).mono ?_
  rintro e w18 ⟨E, A22_, c23_, xs, rfl, ho24_, hx5, ⟨rq21_, rq21_h, rd19_⟩, hC20_, hsm⟩
  have o25_ := o10_.chg hC20_ (by first | omega | (simp; omega) | simp) (by omega)
  have o26_ := (hC20_.cell (p := ⟨w.heap.size, 0, none⟩) (by first | omega | (simp; omega) | simp) (by first | omega | (simp; omega))).trans o11_
  have o27_ := (hC20_.cell (p := ⟨w.heap.size, 1, none⟩) (by first | omega | (simp; omega) | simp) (by first | omega | (simp; omega))).trans o12_
  have o28_ := (hC20_.frozen (p := ⟨w.heap.size, 0, none⟩) (by first | omega | (simp; omega) | simp) (by first | omega | (simp; omega))).trans o13_
  have o29_ := (hC20_.frozen (p := ⟨w.heap.size, 1, none⟩) (by first | omega | (simp; omega) | simp) (by first | omega | (simp; omega))).trans o14_
  have z30_ := hC20_.size
  have B31_ := B16_.trans (hC20_.below (by omega) (by first | omega | (simp; omega) | simp))
  clear hC20_
  obtain ⟨hp1, hp2⟩ := pow_set hx5
  have o32_ := o25_.below ((Below.refl _ _).alloc (Nat.le_refl _) (.cells #[.int .i64 E, .slice A22_ xs.length c23_] 25)) (by first | omega | (simp; omega) | simp)
  have o33_ := rd19_.alloc (.cells #[.int .i64 E, .slice A22_ xs.length c23_] 25)
  have o34_ := ho24_.alloc (by first | omega | (simp; omega) | simp) (.cells #[.int .i64 E, .slice A22_ xs.length c23_] 25)
  have o35_ := cell_alloc (o := (.cells #[.int .i64 E, .slice A22_ xs.length c23_] 25)) o26_ (by first | omega | (simp; omega) | simp)
  have o36_ := cell_alloc (o := (.cells #[.int .i64 E, .slice A22_ xs.length c23_] 25)) o27_ (by first | omega | (simp; omega) | simp)
  have o37_ := frozen_alloc (o := (.cells #[.int .i64 E, .slice A22_ xs.length c23_] 25)) o28_ (by first | omega | (simp; omega) | simp)
  have o38_ := frozen_alloc (o := (.cells #[.int .i64 E, .slice A22_ xs.length c23_] 25)) o29_ (by first | omega | (simp; omega) | simp)
  have B39_ := B31_.alloc (by first | omega | (simp; omega) | simp) (.cells #[.int .i64 E, .slice A22_ xs.length c23_] 25)
  have a40_ : (w18.alloc (.cells #[.int .i64 E, .slice A22_ xs.length c23_] 25)).cell? ⟨w18.heap.size, 0, none⟩ = some (.int .i64 E) := by simp [go_sem]
  have a41_ : (w18.alloc (.cells #[.int .i64 E, .slice A22_ xs.length c23_] 25)).cell? ⟨w18.heap.size, 1, none⟩ = some (.slice A22_ xs.length c23_) := by simp [go_sem]
  have hw51_ : IntKind.i64.wrap (2 ^ xs.length) = (2 ^ xs.length) := IntWalk.i64_in _ (by omega)
  have g56_ : w.heap.size < (w18.alloc (.cells #[.int .i64 E, .slice A22_ xs.length c23_] 25)).heap.size := (by first | omega | (simp; omega) | simp)
  have g57_ : w18.heap.size < (w18.alloc (.cells #[.int .i64 E, .slice A22_ xs.length c23_] 25)).heap.size := (by first | omega | (simp; omega) | simp)
  have g58_ : w.heap.size ≤ (w18.alloc (.cells #[.int .i64 E, .slice A22_ xs.length c23_] 25)).heap.size := (by first | omega | (simp; omega) | simp)
  have g59_ : (w.heap.size + 1) < (w18.alloc (.cells #[.int .i64 E, .slice A22_ xs.length c23_] 25)).heap.size := (by have e := o33_.lt; exact e)
  have g60_ : w18.heap.size ≤ (w18.alloc (.cells #[.int .i64 E, .slice A22_ xs.length c23_] 25)).heap.size := (by first | omega | (simp; omega) | simp)
  have g61_ : w.heap.size ≤ (w18.alloc (.cells #[.int .i64 E, .slice A22_ xs.length c23_] 25)).heap.size := (by first | omega | (simp; omega) | simp)
  go_wp2_with fail
  refine wp_region_held_drew (S := (fun w' : World => Below w.heap.size w w' ∧ w18.heap.size + 1 ≤ w'.heap.size ∧ Bytes w' (w.heap.size) A bs ∧ Own w' (w7.heap.size) (w18.heap.size) A22_ xs ∧ w'.cell? ⟨w18.heap.size, 0, none⟩ = some (.int .i64 E) ∧ w'.cell? ⟨w18.heap.size, 1, none⟩ = some (.slice A22_ xs.length c23_) ∧ (w18.alloc (.cells #[.int .i64 E, .slice A22_ xs.length c23_] 25)).heap.size ≤ w'.heap.size)) (by kernel_rfl) ⟨B39_.drew, by exact (by first | omega | (simp; omega) | simp), o32_, o34_, a40_, a41_, Nat.le_refl _⟩ (fun hHeld => ?_)
  have o62_ : (w18.alloc (.cells #[.int .i64 E, .slice A22_ xs.length c23_] 25)).drew.cell? ⟨w.heap.size, 0, none⟩ = some (.int .i64 0) := o35_
  have o63_ : (w18.alloc (.cells #[.int .i64 E, .slice A22_ xs.length c23_] 25)).drew.cell? ⟨w.heap.size, 1, none⟩ = some (.slice none 0 0) := o36_
  have o64_ : (w18.alloc (.cells #[.int .i64 E, .slice A22_ xs.length c23_] 25)).drew.frozen? ⟨w.heap.size, 0, none⟩ = false := o37_
  have o65_ : (w18.alloc (.cells #[.int .i64 E, .slice A22_ xs.length c23_] 25)).drew.frozen? ⟨w.heap.size, 1, none⟩ = false := o38_
  have o66_ : Rd (w18.alloc (.cells #[.int .i64 E, .slice A22_ xs.length c23_] 25)).drew (w.heap.size + 1) A rc7_ rb7_ rq21_ := o33_.drew
  refine wpAnyH_take (i := 0) (oi := ?oi1) (v := ?vv1) ?hi1 ?hs1 ?hf1 ?ha1 ?hq1 ?hy1 hHeld ?hr1
  case hi1 => (simp only [List.getElem?_toArray, List.getElem?_cons_zero]; exact rfl)
  case hs1 => kernel_rfl
  case hf1 => kernel_rfl
  case ha1 => kernel_rfl
  case hq1 => exact fun _ _ _ h => h
  case hy1 =>
    refine Or.inl ⟨by rfl, ?_⟩
    intro w' hSw
    try dsimp only at hSw
    go_simp
    first | done | with_reducible rfl
  simp only [Act.put, List.setIfInBounds_toArray, List.set_cons_succ, List.set_cons_zero]
  refine wpAnyH_take (i := 1) (oi := ?oi2) (v := ?vv2) ?hi2 ?hs2 ?hf2 ?ha2 ?hq2 ?hy2 hHeld ?hr2
  case hi2 => (simp only [List.getElem?_toArray, List.getElem?_cons_succ, List.getElem?_cons_zero]; exact rfl)
  case hs2 => kernel_rfl
  case hf2 => kernel_rfl
  case ha2 => kernel_rfl
  case hq2 => exact fun _ _ _ h => h
  case hy2 =>
    refine Or.inl ⟨by rfl, ?_⟩
    intro w' hSw
    try dsimp only at hSw
    go_simp
    first | done | with_reducible rfl
  simp only [Act.put, List.setIfInBounds_toArray, List.set_cons_succ, List.set_cons_zero]
  refine wpAnyH_take (i := 2) (oi := ?oi3) (v := ?vv3) ?hi3 ?hs3 ?hf3 ?ha3 ?hq3 ?hy3 hHeld ?hr3
  case hi3 => (simp only [List.getElem?_toArray, List.getElem?_cons_succ, List.getElem?_cons_zero]; exact rfl)
  case hs3 => kernel_rfl
  case hf3 => kernel_rfl
  case ha3 => kernel_rfl
  case hq3 => exact fun _ _ _ h => h
  case hy3 =>
    refine Or.inl ⟨by rfl, ?_⟩
    intro w' hSw
    try dsimp only at hSw
    go_simp
    first | done | with_reducible rfl
  simp only [Act.put, List.setIfInBounds_toArray, List.set_cons_succ, List.set_cons_zero]
  refine wpAnyH_take (i := 3) (oi := ?oi4) (v := ?vv4) ?hi4 ?hs4 ?hf4 ?ha4 ?hq4 ?hy4 hHeld ?hr4
  case hi4 => (simp only [List.getElem?_toArray, List.getElem?_cons_succ, List.getElem?_cons_zero]; exact rfl)
  case hs4 => kernel_rfl
  case hf4 => kernel_rfl
  case ha4 => kernel_rfl
  case hq4 => exact fun _ _ _ h => h
  case hy4 =>
    refine Or.inl ⟨by rfl, ?_⟩
    intro w' hSw
    try dsimp only at hSw
    go_simp
    first | done | with_reducible rfl
  simp only [Act.put, List.setIfInBounds_toArray, List.set_cons_succ, List.set_cons_zero]
  refine wpAnyH_take (i := 4) (oi := ?oi5) (v := ?vv5) ?hi5 ?hs5 ?hf5 ?ha5 ?hq5 ?hy5 hHeld ?hr5
  case hi5 => (simp only [List.getElem?_toArray, List.getElem?_cons_succ, List.getElem?_cons_zero]; exact rfl)
  case hs5 => kernel_rfl
  case hf5 => kernel_rfl
  case ha5 => kernel_rfl
  case hq5 => exact fun _ _ _ h => h
  case hy5 =>
    refine Or.inl ⟨by rfl, ?_⟩
    intro w' hSw
    try dsimp only at hSw
    go_simp
    first | done | with_reducible rfl
  simp only [Act.put, List.setIfInBounds_toArray, List.set_cons_succ, List.set_cons_zero]
  refine wpAnyH_take (i := 5) (oi := ?oi6) (v := ?vv6) ?hi6 ?hs6 ?hf6 ?ha6 ?hq6 ?hy6 hHeld ?hr6
  case hi6 => (simp only [List.getElem?_toArray, List.getElem?_cons_succ, List.getElem?_cons_zero]; exact rfl)
  case hs6 => kernel_rfl
  case hf6 => kernel_rfl
  case ha6 => kernel_rfl
  case hq6 => exact fun _ _ _ h => h
  case hy6 =>
    refine Or.inl ⟨by rfl, ?_⟩
    intro w' hSw
    try dsimp only at hSw
    go_simp
    first | done | with_reducible rfl
  simp only [Act.put, List.setIfInBounds_toArray, List.set_cons_succ, List.set_cons_zero]
  refine wpAnyH_take (i := 7) (oi := ?oi7) (v := ?vv7) ?hi7 ?hs7 ?hf7 ?ha7 ?hq7 ?hy7 hHeld ?hr7
  case hi7 => (simp only [List.getElem?_toArray, List.getElem?_cons_succ, List.getElem?_cons_zero]; exact rfl)
  case hs7 => kernel_rfl
  case hf7 => kernel_rfl
  case ha7 => kernel_rfl
  case hq7 => exact fun _ _ _ h => h
  case hy7 =>
    refine Or.inl ⟨by rfl, ?_⟩
    intro w' hSw
    try dsimp only at hSw
    go_simp
    first | done | with_reducible rfl
  simp only [Act.put, List.setIfInBounds_toArray, List.set_cons_succ, List.set_cons_zero]
  refine wpAnyH_ready (rs := [6]) (by kernel_rfl) (by simp) ?_
  refine AllReadyH.cons rfl (fun K hK => ?_) AllReadyH.nil
  go_simp
  go_at_call 49
  obtain ⟨BB, zz, k52_, k53_, k54_, k55_, zw⟩ := hHeld
  (with_reducible refine (pick_to (w.heap.size + 1) A rc7_ rb7_ _ (2 ^ xs.length) _ o66_ (by omega) (by omega) rl7_ (by omega)).mono ?_)
  rintro e w67 ⟨u42_, rfl, u42_l, u42_h, rd43_, hC44_⟩
  have o68_ := (hC44_.cell (p := ⟨w.heap.size, 0, none⟩) (by first | omega | (simp; omega) | simp) (by first | omega | (simp; omega))).trans o62_
  have o69_ := (hC44_.cell (p := ⟨w.heap.size, 1, none⟩) (by first | omega | (simp; omega) | simp) (by first | omega | (simp; omega))).trans o63_
  have o70_ := (hC44_.frozen (p := ⟨w.heap.size, 0, none⟩) (by first | omega | (simp; omega) | simp) (by first | omega | (simp; omega))).trans o64_
  have o71_ := (hC44_.frozen (p := ⟨w.heap.size, 1, none⟩) (by first | omega | (simp; omega) | simp) (by first | omega | (simp; omega))).trans o65_
  refine hK.out _ _ ⟨BB.trans (hC44_.below (by omega) (by omega)), Nat.le_trans zz hC44_.size, k52_.chg hC44_ (by first | omega | (simp; omega) | simp) (by omega), k53_.chg hC44_ (by first | omega | (simp; omega) | simp) (by omega), (hC44_.cell (p := ⟨w18.heap.size, 0, none⟩) (by first | omega | (simp; omega) | simp) (by first | omega | (simp; omega))).trans k54_, (hC44_.cell (p := ⟨w18.heap.size, 1, none⟩) (by first | omega | (simp; omega) | simp) (by first | omega | (simp; omega))).trans k55_, Nat.le_trans zw hC44_.size⟩ (fun hHeld => ?_)
  clear hC44_ zw k55_ k54_ k53_ k52_ zz BB
  clear hK K
  try simp only [Act.put, List.setIfInBounds_toArray, List.set_cons_zero, List.set_cons_succ]
  refine wpAnyH_ready (rs := [8]) (by kernel_rfl) (by simp) ?_
  refine AllReadyH.cons rfl (fun K hK => ?_) AllReadyH.nil
  go_simp
  go_at_call 49
  obtain ⟨BB, zz, k52_, k53_, k54_, k55_, zw⟩ := hHeld
  (with_reducible refine (pick_to (w.heap.size + 1) A rc7_ rb7_ _ 40 _ rd43_ (by omega) (by omega) rl7_ (by omega)).mono ?_)
  rintro e w72 ⟨u45_, rfl, u45_l, u45_h, rd46_, hC47_⟩
  have o73_ := (hC47_.cell (p := ⟨w.heap.size, 0, none⟩) (by first | omega | (simp; omega) | simp) (by first | omega | (simp; omega))).trans o68_
  have o74_ := (hC47_.cell (p := ⟨w.heap.size, 1, none⟩) (by first | omega | (simp; omega) | simp) (by first | omega | (simp; omega))).trans o69_
  have o75_ := (hC47_.frozen (p := ⟨w.heap.size, 0, none⟩) (by first | omega | (simp; omega) | simp) (by first | omega | (simp; omega))).trans o70_
  have o76_ := (hC47_.frozen (p := ⟨w.heap.size, 1, none⟩) (by first | omega | (simp; omega) | simp) (by first | omega | (simp; omega))).trans o71_
  refine hK.out _ _ ⟨BB.trans (hC47_.below (by omega) (by omega)), Nat.le_trans zz hC47_.size, k52_.chg hC47_ (by first | omega | (simp; omega) | simp) (by omega), k53_.chg hC47_ (by first | omega | (simp; omega) | simp) (by omega), (hC47_.cell (p := ⟨w18.heap.size, 0, none⟩) (by first | omega | (simp; omega) | simp) (by first | omega | (simp; omega))).trans k54_, (hC47_.cell (p := ⟨w18.heap.size, 1, none⟩) (by first | omega | (simp; omega) | simp) (by first | omega | (simp; omega))).trans k55_, Nat.le_trans zw hC47_.size⟩ (fun hHeld => ?_)
  clear hC47_ zw k55_ k54_ k53_ k52_ zz BB
  clear hK K
  try simp only [Act.put, List.setIfInBounds_toArray, List.set_cons_zero, List.set_cons_succ]
  have hq48_ : IntKind.i64.wrap (u45_.tdiv 39) = u45_ / 39 := by rw [Int.tdiv_eq_ediv_of_nonneg (by omega)]; exact IntWalk.i64_in _ (by omega)
  refine wpAnyH_take (i := 9) (oi := ?oi8) (v := ?vv8) ?hi8 ?hs8 ?hf8 ?ha8 ?hq8 ?hy8 hHeld ?hr8
  case hi8 => (simp only [List.getElem?_toArray, List.getElem?_cons_succ, List.getElem?_cons_zero]; exact rfl)
  case hs8 => kernel_rfl
  case hf8 => kernel_rfl
  case ha8 => kernel_rfl
  case hq8 => exact fun _ _ _ h => h
  case hy8 =>
    refine Or.inl ⟨by rfl, ?_⟩
    intro w' hSw
    try dsimp only at hSw
    go_simp
    first | done | with_reducible rfl
  simp only [Act.put, List.setIfInBounds_toArray, List.set_cons_succ, List.set_cons_zero]
  have hw49_ : IntKind.i64.wrap ((u45_ / 39) * 32) = ((u45_ / 39) * 32) := IntWalk.i64_in _ (by omega)
  refine wpAnyH_take (i := 10) (oi := ?oi9) (v := ?vv9) ?hi9 ?hs9 ?hf9 ?ha9 ?hq9 ?hy9 hHeld ?hr9
  case hi9 => (simp only [List.getElem?_toArray, List.getElem?_cons_succ, List.getElem?_cons_zero]; exact rfl)
  case hs9 => kernel_rfl
  case hf9 => kernel_rfl
  case ha9 => kernel_rfl
  case hq9 => exact fun _ _ _ h => h
  case hy9 =>
    refine Or.inl ⟨by rfl, ?_⟩
    intro w' hSw
    try dsimp only at hSw
    go_simp
    first | done | with_reducible rfl
  simp only [Act.put, List.setIfInBounds_toArray, List.set_cons_succ, List.set_cons_zero]
  have hw50_ : IntKind.i64.wrap (u42_ + ((u45_ / 39) * 32)) = (u42_ + ((u45_ / 39) * 32)) := IntWalk.i64_in _ (by omega)
  refine wpAnyH_take (i := 11) (oi := ?oi10) (v := ?vv10) ?hi10 ?hs10 ?hf10 ?ha10 ?hq10 ?hy10 hHeld ?hr10
  case hi10 => (simp only [List.getElem?_toArray, List.getElem?_cons_succ, List.getElem?_cons_zero]; exact rfl)
  case hs10 => kernel_rfl
  case hf10 => kernel_rfl
  case ha10 => kernel_rfl
  case hq10 => exact fun _ _ _ h => h
  case hy10 =>
    refine Or.inl ⟨by rfl, ?_⟩
    intro w' hSw
    try dsimp only at hSw
    go_simp
    first | done | with_reducible rfl
  simp only [Act.put, List.setIfInBounds_toArray, List.set_cons_succ, List.set_cons_zero]
  refine wpAnyH_ready (rs := [12]) (by kernel_rfl) (by simp) ?_
  refine AllReadyH.cons rfl (fun K hK => ?_) AllReadyH.nil
  obtain ⟨BB, zz, k52_, k53_, k54_, k55_, zw⟩ := hHeld
  go_simp
  have hC77_ := Chg.setCell (lo := w.heap.size) (hi := w.heap.size + 1) w72 (p := ⟨w.heap.size, 0, none⟩) ⟨Nat.le_refl _, Nat.lt_succ_self _⟩ (.int .i64 E)
  have a78_ := cell_set o73_ (.int .i64 E)
  have a79_ := cell_set_off o74_ (i := 0) (by omega) (.int .i64 E)
  have f80_ := frozen_set o75_ ⟨w.heap.size, 0, none⟩ (.int .i64 E)
  have f81_ := frozen_set o76_ ⟨w.heap.size, 0, none⟩ (.int .i64 E)
  obtain ⟨BB, zz, k52_, k53_, k54_, k55_, zw⟩ : (fun w' : World => Below w.heap.size w w' ∧ w18.heap.size + 1 ≤ w'.heap.size ∧ Bytes w' (w.heap.size) A bs ∧ Own w' (w7.heap.size) (w18.heap.size) A22_ xs ∧ w'.cell? ⟨w18.heap.size, 0, none⟩ = some (.int .i64 E) ∧ w'.cell? ⟨w18.heap.size, 1, none⟩ = some (.slice A22_ xs.length c23_) ∧ (w18.alloc (.cells #[.int .i64 E, .slice A22_ xs.length c23_] 25)).heap.size ≤ w'.heap.size) (w72.setCell ⟨w.heap.size, 0, none⟩ (.int .i64 E)) := ⟨BB.trans (hC77_.below (by omega) (by first | omega | (simp; omega) | simp)), Nat.le_trans zz hC77_.size, k52_.chg hC77_ (by first | omega | (simp; omega) | simp) (by omega), k53_.chg hC77_ (by first | omega | (simp; omega) | simp) (by omega), (hC77_.cell (p := ⟨w18.heap.size, 0, none⟩) (by first | omega | (simp; omega) | simp) (by first | omega | (simp; omega))).trans k54_, (hC77_.cell (p := ⟨w18.heap.size, 1, none⟩) (by first | omega | (simp; omega) | simp) (by first | omega | (simp; omega))).trans k55_, Nat.le_trans zw hC77_.size⟩
  have hC82_ := Chg.setCell (lo := w.heap.size) (hi := w.heap.size + 1) (w72.setCell ⟨w.heap.size, 0, none⟩ (.int .i64 E)) (p := ⟨w.heap.size, 1, none⟩) ⟨Nat.le_refl _, Nat.lt_succ_self _⟩ (.slice A22_ xs.length c23_)
  have a83_ := cell_set_off a78_ (i := 1) (by omega) (.slice A22_ xs.length c23_)
  have a84_ := cell_set a79_ (.slice A22_ xs.length c23_)
  have f85_ := frozen_set f80_ ⟨w.heap.size, 1, none⟩ (.slice A22_ xs.length c23_)
  have f86_ := frozen_set f81_ ⟨w.heap.size, 1, none⟩ (.slice A22_ xs.length c23_)
  refine hK.out _ _ ⟨BB.trans (hC82_.below (by omega) (by first | omega | (simp; omega) | simp)), Nat.le_trans zz hC82_.size, k52_.chg hC82_ (by first | omega | (simp; omega) | simp) (by omega), k53_.chg hC82_ (by first | omega | (simp; omega) | simp) (by omega), (hC82_.cell (p := ⟨w18.heap.size, 0, none⟩) (by first | omega | (simp; omega) | simp) (by first | omega | (simp; omega))).trans k54_, (hC82_.cell (p := ⟨w18.heap.size, 1, none⟩) (by first | omega | (simp; omega) | simp) (by first | omega | (simp; omega))).trans k55_, Nat.le_trans zw hC82_.size⟩ (fun hHeld => ?_)
  clear zw k55_ k54_ k53_ k52_ zz BB
  clear hK K
  try simp only [Act.put, List.setIfInBounds_toArray, List.set_cons_zero, List.set_cons_succ]
  refine wpAnyH_take (i := 13) (oi := ?oi11) (v := ?vv11) ?hi11 ?hs11 ?hf11 ?ha11 ?hq11 ?hy11 hHeld ?hr11
  case hi11 => (simp only [List.getElem?_toArray, List.getElem?_cons_succ, List.getElem?_cons_zero]; exact rfl)
  case hs11 => kernel_rfl
  case hf11 => kernel_rfl
  case ha11 => kernel_rfl
  case hq11 => exact fun _ _ _ h => h
  case hy11 =>
    refine Or.inl ⟨by rfl, ?_⟩
    intro w' hSw
    try dsimp only at hSw
    go_simp
    first | done | with_reducible rfl
  simp only [Act.put, List.setIfInBounds_toArray, List.set_cons_succ, List.set_cons_zero]
  refine wpAnyH_done (by kernel_rfl) ?_ _
  obtain ⟨BB, zz, k52_, k53_, k54_, k55_, zw⟩ := hHeld
  clear hw51_
  have k87_ := BB
  clear BB
  have k88_ := zz
  clear zz
  have k89_ := zw
  clear zw
  go_wp2
  refine bodyPost_ret (v := .tuple #[.agg #[.int .i64 E, .slice A22_ xs.length c23_], .int .i64 (u42_ + ((u45_ / 39) * 32))]) (by simp [results, Try.results14, go_sem, a83_, a84_]) rfl ?_
  exact ⟨E, A22_, c23_, xs, _, hx5, (by omega), rfl, k53_.more (by omega) (by omega), k87_⟩

set_option maxRecDepth 10000 in
set_option maxHeartbeats 1000000 in
theorem drawMissRow_any (A : Option Addr) (c : Nat) (bs : List Int) (w : World) (h : Bytes w w.heap.size A bs) (hl : bs.length ≤ 9223372036854775807) (hc : bs.length ≤ c) :
    Calls Try.prog 25 #[.slice A bs.length c] w (DrawnAwards w) := by
  have B0 := (Below.refl w.heap.size w).alloc (Nat.le_refl _) (.cells #[.int .i64 0, .slice none 0 0] 25)
  have x0 := Box.new w (.int .i64 0) (.slice none 0 0) 25
  have h0 := (h.below B0 (Nat.le_refl _)).more (hi' := (w.alloc (.cells #[.int .i64 0, .slice none 0 0] 25)).heap.size) (by rw [hsz]; omega)
  go_enter Try.func25, Try.ntmps25
  go_wp2_with fail
  refine (drawPairsOk_any A c bs _ h0 hl hc).mono ?_
  rintro e w1 ⟨E, A1, c1, A2, c2, xs, ys, hx5, hy5, hyb, rfl, ho1, hq1, hb1⟩
  have x1 := x0.below hb1 (by rw [hsz]; omega)
  rw [hsz] at hb1 ho1 hq1
  have z1 := hb1.size
  rw [hsz] at z1
  have B1 := B0.trans (hb1.mono (by omega))
  have s1 := x1.c0
  have s2 := x1.c1
  have s3 := x1.f0
  have s4 := x1.f1
  have s5 := x1.lt
  have x5 := (x1.set0 (.int .i64 E)).set1 (.slice A1 xs.length c1)
  have t1 := x5.c0
  have t2 := x5.c1
  clear h h0 hb1 x0 x1 x5 B0
  go_wp2
  refine bodyPost_ret (v := .tuple #[.agg #[.int .i64 E, .slice A1 xs.length c1], .slice A2 ys.length c2]) (by simp [results, Try.results25, go_sem, t1, t2]) rfl ?_
  exact ⟨E, A1, c1, A2, c2, xs, ys, hx5, hy5, hyb, rfl, ((ho1.set_out (.inl (by simp)) _).set_out (.inl (by simp)) _).more (by omega) (by simp [World.setCell]), ((hq1.set_out (.inl (by simp)) _).set_out (.inl (by simp)) _).more (by omega) (by simp [World.setCell]), (B1.setCell (by simp) _).setCell (by simp) _⟩


set_option maxRecDepth 10000 in
set_option maxHeartbeats 400000 in
theorem drawWorthRow_any (A : Option Addr) (c : Nat) (bs : List Int) (w : World) (h : Bytes w w.heap.size A bs) (hl : bs.length ≤ 9223372036854775807) (hc : bs.length ≤ c) :
    Calls Try.prog 32 #[.slice A bs.length c] w (DrawnCase w) := by
  have B0 := (Below.refl w.heap.size w).alloc (Nat.le_refl _) (.cells #[.int .i64 0, .slice none 0 0] 25)
  have x0 := Box.new w (.int .i64 0) (.slice none 0 0) 25
  have h0 := (h.below B0 (Nat.le_refl _)).more (hi' := (w.alloc (.cells #[.int .i64 0, .slice none 0 0] 25)).heap.size) (by rw [hsz]; omega)
  go_enter Try.func32, Try.ntmps32
  go_wp2_with fail
  refine (l20Open_any A c bs _ h0 hl hc).mono ?_
  rintro e w1 ⟨rfl, hb1, c', bs', hl', rd⟩
  have x1 := x0.below hb1 (by rw [hsz]; omega)
  rw [hsz] at hb1 rd
  have z1 := hb1.size
  rw [hsz] at z1
  have B1 := B0.trans (hb1.mono (by omega))
  clear h h0 hb1 x0 B0
  go_wp2_with fail
  refine (l20Case_any (w.heap.size + 1) A c' bs' 0 9 _ (by simpa [hsz] using rd) (by omega) (by omega) hl' (by omega)).mono ?_
  rintro e w2 ⟨E, A2, c2, xs, rfl, ho2, hx5, _, hch2⟩
  have x2 := x1.chg hch2 (by omega)
  have z2 := hch2.size
  have B2 := B1.trans (hch2.below (B := w.heap.size) (by omega) (by omega))
  have p1 := x2.c0
  have p2 := x2.c1
  have p3 := x2.f0
  have p4 := x2.f1
  have ho2' : Own w2 (w.heap.size + 1) w2.heap.size A2 xs := ho2.more (by omega) (Nat.le_refl _)
  clear x1 x2 hch2 rd ho2 B1
  go_wp2
  refine bodyPost_ret (v := .agg #[.int .i64 E, .slice A2 xs.length c2]) (by simp [results, Try.results32, go_sem, p1, p2]) rfl ?_
  exact ⟨E, A2, c2, xs, hx5, rfl, ((ho2'.set_out (.inl (by simp)) _).set_out (.inl (by simp)) _).more (by omega) (by simp [World.setCell]), (B2.setCell (by simp) _).setCell (by simp) _⟩


def DrawnRow (w : World) (e : Ending) (w' : World) : Prop :=
  ∃ E A1 c1 A2 c2, ∃ xs ys : List Int, xs.length ≤ 5 ∧ ys.length ≤ 5 ∧ (∀ y ∈ ys, -1000 ≤ y ∧ y ≤ 3000) ∧ e = .returned (.tuple #[.agg #[.int .i64 E, .slice A1 xs.length c1], .slice A2 ys.length c2]) ∧ Own w' w.heap.size w'.heap.size A1 xs ∧ Own w' w.heap.size w'.heap.size A2 ys ∧ Below w.heap.size w w'
theorem set_rg {ys : List Int} {lo hi lo' hi' v : Int} {i : Nat} (h : ∀ y ∈ ys, lo ≤ y ∧ y ≤ hi) (hl : lo' ≤ lo) (hh : hi ≤ hi') (hv : lo' ≤ v ∧ v ≤ hi') : ∀ y ∈ ys.set i v, lo' ≤ y ∧ y ≤ hi' := fun y hy => by
  rcases List.mem_or_eq_of_mem_set hy with e | e
  · have e2 := h y e; omega
  · subst e; exact hv
def DrawnRows (w : World) (e : Ending) (w' : World) : Prop :=
  ∃ A1 c1 A2 c2, ∃ xs ys : List Int, xs.length ≤ 18 ∧ ys.length ≤ 18 ∧ (∀ y ∈ xs, -1 ≤ y ∧ y ≤ 1) ∧ (∀ y ∈ ys, -1 ≤ y ∧ y ≤ 1) ∧ e = .returned (.tuple #[.slice A1 xs.length c1, .slice A2 ys.length c2]) ∧ Own w' w.heap.size w'.heap.size A1 xs ∧ Own w' w.heap.size w'.heap.size A2 ys ∧ Below w.heap.size w w'
theorem snoc_rg {ys : List Int} {lo hi v : Int} (h : ∀ y ∈ ys, lo ≤ y ∧ y ≤ hi) (hv : lo ≤ v ∧ v ≤ hi) : ∀ y ∈ ys ++ [v], lo ≤ y ∧ y ≤ hi := fun y hy => by
  rcases List.mem_append.1 hy with e | e
  · exact h y e
  · simp at e; subst e; exact hv

set_option maxRecDepth 10000 in
set_option maxHeartbeats 2000000 in
theorem drawCoreOk_any (A : Option Addr) (c : Nat) (bs : List Int) (w : World) (h : Bytes w w.heap.size A bs) (hl : bs.length ≤ 9223372036854775807) (hc : bs.length ≤ c) :
    Calls Try.prog 18 #[.slice A bs.length c] w (DrawnRow w) := by
  go_enter Try.func18, Try.ntmps18
  have o1_ := h.below ((Below.refl _ _).alloc (Nat.le_refl _) (.cells #[.int .i64 0, .slice none 0 0] 25)) (by first | omega | (simp; omega) | simp)
  have B2_ := (Below.refl w.heap.size w).alloc (Nat.le_refl _) (.cells #[.int .i64 0, .slice none 0 0] 25)
  have a3_ : (w.alloc (.cells #[.int .i64 0, .slice none 0 0] 25)).cell? ⟨w.heap.size, 0, none⟩ = some (.int .i64 0) := by simp [go_sem]
  have a4_ : (w.alloc (.cells #[.int .i64 0, .slice none 0 0] 25)).cell? ⟨w.heap.size, 1, none⟩ = some (.slice none 0 0) := by simp [go_sem]
  have f5_ : (w.alloc (.cells #[.int .i64 0, .slice none 0 0] 25)).frozen? ⟨w.heap.size, 0, none⟩ = false := by simp [go_sem]
  have f6_ : (w.alloc (.cells #[.int .i64 0, .slice none 0 0] 25)).frozen? ⟨w.heap.size, 1, none⟩ = false := by simp [go_sem]
  go_wp2_with fail
  refine (l20Open_any A c bs _ (o1_.more (by first | omega | (simp; omega) | simp)) (by omega) hc).mono ?_
  rintro e w7 ⟨rfl, hb9_, rc7_, rb7_, rl7_, rd8_⟩
  simp only [hsz] at rd8_
  have o10_ := o1_.below hb9_ (by first | omega | (simp; omega) | simp)
  have o11_ := (hb9_.cell (p := ⟨w.heap.size, 0, none⟩) (by first | omega | (simp; omega) | simp)).trans a3_
  have o12_ := (hb9_.cell (p := ⟨w.heap.size, 1, none⟩) (by first | omega | (simp; omega) | simp)).trans a4_
  have o13_ := (hb9_.frozen (p := ⟨w.heap.size, 0, none⟩) (by first | omega | (simp; omega) | simp)).trans f5_
  have o14_ := (hb9_.frozen (p := ⟨w.heap.size, 1, none⟩) (by first | omega | (simp; omega) | simp)).trans f6_
  have z15_ := hb9_.size
  try simp at z15_
  have B16_ := B2_.trans (hb9_.mono (by first | omega | (simp; omega) | simp))
  clear hb9_
  have l17_ := rd8_.lt
  go_wp2_with fail
  refine (l20Case_anyB (w.heap.size + 1) A rc7_ rb7_ _ 12 _ rd8_ (by omega) (by omega) rl7_ (by omega)).mono ?_
  rintro e w18 ⟨E, A22_, c23_, xs, rfl, ho24_, hx5, ⟨rq21_, rq21_h, rd19_⟩, hC20_, hsm⟩
  have o25_ := o10_.chg hC20_ (by first | omega | (simp; omega) | simp) (by omega)
  have o26_ := (hC20_.cell (p := ⟨w.heap.size, 0, none⟩) (by first | omega | (simp; omega) | simp) (by first | omega | (simp; omega))).trans o11_
  have o27_ := (hC20_.cell (p := ⟨w.heap.size, 1, none⟩) (by first | omega | (simp; omega) | simp) (by first | omega | (simp; omega))).trans o12_
  have o28_ := (hC20_.frozen (p := ⟨w.heap.size, 0, none⟩) (by first | omega | (simp; omega) | simp) (by first | omega | (simp; omega))).trans o13_
  have o29_ := (hC20_.frozen (p := ⟨w.heap.size, 1, none⟩) (by first | omega | (simp; omega) | simp) (by first | omega | (simp; omega))).trans o14_
  have z30_ := hC20_.size
  have B31_ := B16_.trans (hC20_.below (by omega) (by first | omega | (simp; omega) | simp))
  clear hC20_
  have o32_ := o25_.below ((Below.refl _ _).alloc (Nat.le_refl _) (.cells #[.int .i64 E, .slice A22_ xs.length c23_] 25)) (by first | omega | (simp; omega) | simp)
  have o33_ := rd19_.alloc (.cells #[.int .i64 E, .slice A22_ xs.length c23_] 25)
  have o34_ := ho24_.alloc (by first | omega | (simp; omega) | simp) (.cells #[.int .i64 E, .slice A22_ xs.length c23_] 25)
  have o35_ := cell_alloc (o := (.cells #[.int .i64 E, .slice A22_ xs.length c23_] 25)) o26_ (by first | omega | (simp; omega) | simp)
  have o36_ := cell_alloc (o := (.cells #[.int .i64 E, .slice A22_ xs.length c23_] 25)) o27_ (by first | omega | (simp; omega) | simp)
  have o37_ := frozen_alloc (o := (.cells #[.int .i64 E, .slice A22_ xs.length c23_] 25)) o28_ (by first | omega | (simp; omega) | simp)
  have o38_ := frozen_alloc (o := (.cells #[.int .i64 E, .slice A22_ xs.length c23_] 25)) o29_ (by first | omega | (simp; omega) | simp)
  have B39_ := B31_.alloc (by first | omega | (simp; omega) | simp) (.cells #[.int .i64 E, .slice A22_ xs.length c23_] 25)
  have a40_ : (w18.alloc (.cells #[.int .i64 E, .slice A22_ xs.length c23_] 25)).cell? ⟨w18.heap.size, 0, none⟩ = some (.int .i64 E) := by simp [go_sem]
  have a41_ : (w18.alloc (.cells #[.int .i64 E, .slice A22_ xs.length c23_] 25)).cell? ⟨w18.heap.size, 1, none⟩ = some (.slice A22_ xs.length c23_) := by simp [go_sem]
  go_wp2_with fail
  refine (l20Awards_any (w.heap.size + 1) A rc7_ rb7_ _ 9 E A22_ c23_ xs _ _ _ o33_ o34_.ints (by first | omega | (simp; omega) | simp) (by first | omega | (simp; omega) | simp) hx5 hsm (by omega) (by omega) rl7_ (by omega)).mono ?_
  rintro e w42 ⟨A46_, c47_, ys, rfl, ho48_, hy5, hyb, ⟨rq45_, rq45_h, rd43_⟩, hC44_⟩
  have ho48_ := ho48_.more (lo' := w18.heap.size + 1) (by simp) (Nat.le_refl _)
  have o49_ := o32_.chg hC44_ (by first | omega | (simp; omega) | simp) (by omega)
  have o50_ := o34_.chg hC44_ (by first | omega | (simp; omega) | simp) (by omega)
  have o51_ := (hC44_.cell (p := ⟨w.heap.size, 0, none⟩) (by first | omega | (simp; omega) | simp) (by first | omega | (simp; omega))).trans o35_
  have o52_ := (hC44_.cell (p := ⟨w.heap.size, 1, none⟩) (by first | omega | (simp; omega) | simp) (by first | omega | (simp; omega))).trans o36_
  have o53_ := (hC44_.frozen (p := ⟨w.heap.size, 0, none⟩) (by first | omega | (simp; omega) | simp) (by first | omega | (simp; omega))).trans o37_
  have o54_ := (hC44_.frozen (p := ⟨w.heap.size, 1, none⟩) (by first | omega | (simp; omega) | simp) (by first | omega | (simp; omega))).trans o38_
  have o55_ := (hC44_.cell (p := ⟨w18.heap.size, 0, none⟩) (by first | omega | (simp; omega) | simp) (by first | omega | (simp; omega))).trans a40_
  have o56_ := (hC44_.cell (p := ⟨w18.heap.size, 1, none⟩) (by first | omega | (simp; omega) | simp) (by first | omega | (simp; omega))).trans a41_
  have z57_ := hC44_.size
  try simp at z57_
  have B58_ := B39_.trans (hC44_.below (by omega) (by first | omega | (simp; omega) | simp))
  clear hC44_
  go_wp2_with fail
  refine (pick_to (w.heap.size + 1) A rc7_ rb7_ _ 3 _ rd43_ (by omega) (by omega) rl7_ (by omega)).mono ?_
  rintro e w59 ⟨u60_, rfl, u60_l, u60_h, rd61_, hC62_⟩
  have o63_ := o49_.chg hC62_ (by first | omega | (simp; omega) | simp) (by omega)
  have o64_ := o50_.chg hC62_ (by first | omega | (simp; omega) | simp) (by omega)
  have o65_ := ho48_.chg hC62_ (by first | omega | (simp; omega) | simp) (by omega)
  have o66_ := (hC62_.cell (p := ⟨w.heap.size, 0, none⟩) (by first | omega | (simp; omega) | simp) (by first | omega | (simp; omega))).trans o51_
  have o67_ := (hC62_.cell (p := ⟨w.heap.size, 1, none⟩) (by first | omega | (simp; omega) | simp) (by first | omega | (simp; omega))).trans o52_
  have o68_ := (hC62_.frozen (p := ⟨w.heap.size, 0, none⟩) (by first | omega | (simp; omega) | simp) (by first | omega | (simp; omega))).trans o53_
  have o69_ := (hC62_.frozen (p := ⟨w.heap.size, 1, none⟩) (by first | omega | (simp; omega) | simp) (by first | omega | (simp; omega))).trans o54_
  have o70_ := (hC62_.cell (p := ⟨w18.heap.size, 0, none⟩) (by first | omega | (simp; omega) | simp) (by first | omega | (simp; omega))).trans o55_
  have o71_ := (hC62_.cell (p := ⟨w18.heap.size, 1, none⟩) (by first | omega | (simp; omega) | simp) (by first | omega | (simp; omega))).trans o56_
  have z72_ := hC62_.size
  have B73_ := B58_.trans (hC62_.below (by omega) (by first | omega | (simp; omega) | simp))
  clear hC62_
  by_cases h74_ : u60_ = 0
  · have h74_b : (u60_ == 0) = true := by simpa using h74_
    have h74_n : (u60_ != 0) = false := by simpa using h74_
    have h74_le : u60_ ≤ 0 := by omega
    have h74_ge : 0 ≤ u60_ := by omega
    have Hh74_ := Lib.hid h74_
    clear h74_
    by_cases h75_ : (ys.length : Int) > 1
    · have h75_d : decide ((ys.length : Int) > 1) = true := decide_eq_true h75_
      obtain ⟨b76_, f77_, rfl, b76_l, b76_h, -⟩ := o65_.ints (by omega)
      have c78_ : w59.cell? ⟨b76_, f77_, none⟩ = some (.int .i64 (ys.getD 0 0)) := o65_.ints.at2 0 (by first | omega | (simp; omega) | simp)
      have c78_i : 0 < (ys.length : Int) := by omega
      have c78_j : (0 : Int) ≤ 0 := by omega
      have v79_g := getD_rg hyb (by omega) 0
      obtain ⟨v79_, hv79_⟩ : ∃ v, v = ys.getD 0 0 := ⟨_, rfl⟩
      rw [← hv79_] at c78_ v79_g
      have Hv79_ := Lib.hid hv79_
      clear hv79_
      obtain ⟨v79_g1, v79_g2⟩ := v79_g
      have c81_d := o65_.cells 0 (by omega)
      obtain ⟨c81_, c81_f⟩ := c81_d
      have c81_i : 0 < (ys.length : Int) := by omega
      have c81_j : (0 : Int) ≤ 0 := by omega
      rw [Nat.add_zero] at c81_ c81_f
      have hC80_ := Chg.setCell (lo := b76_) (hi := b76_ + 1) w59 (p := ⟨b76_, f77_, none⟩) ⟨Nat.le_refl _, Nat.lt_succ_self _⟩ (.int .i64 (v79_ + 30))
      have G82_ := o65_.stored (j := 0) (by omega) (v79_ + 30)
      rw [Nat.add_zero] at G82_
      have o83_ := o63_.chg hC80_ (by first | omega | (simp; omega) | simp) (by omega)
      have o84_ := rd61_.chg hC80_ (by omega)
      have o85_ := o64_.chg hC80_ (by first | omega | (simp; omega) | simp) (by omega)
      have o86_ := (hC80_.cell (p := ⟨w.heap.size, 0, none⟩) (by first | omega | (simp; omega) | simp) (by first | omega | (simp; omega))).trans o66_
      have o87_ := (hC80_.cell (p := ⟨w.heap.size, 1, none⟩) (by first | omega | (simp; omega) | simp) (by first | omega | (simp; omega))).trans o67_
      have o88_ := (hC80_.frozen (p := ⟨w.heap.size, 0, none⟩) (by first | omega | (simp; omega) | simp) (by first | omega | (simp; omega))).trans o68_
      have o89_ := (hC80_.frozen (p := ⟨w.heap.size, 1, none⟩) (by first | omega | (simp; omega) | simp) (by first | omega | (simp; omega))).trans o69_
      have o90_ := (hC80_.cell (p := ⟨w18.heap.size, 0, none⟩) (by first | omega | (simp; omega) | simp) (by first | omega | (simp; omega))).trans o70_
      have o91_ := (hC80_.cell (p := ⟨w18.heap.size, 1, none⟩) (by first | omega | (simp; omega) | simp) (by first | omega | (simp; omega))).trans o71_
      have z92_ := hC80_.size
      try simp at z92_
      have B93_ := B73_.trans (hC80_.below (by omega) (by first | omega | (simp; omega) | simp))
      clear hC80_
      have HL94_ : Hid ((ys.set 0 (v79_ + 30)).length = ys.length) := by show _ = _; simp
      have hr95_ : ∀ y ∈ (ys.set 0 (v79_ + 30)), (-31) ≤ y ∧ y ≤ (1030) := set_rg hyb (by omega) (by omega) (by omega)
      have c96_ : (w59.setCell ⟨b76_, f77_, none⟩ (.int .i64 (v79_ + 30))).cell? ⟨b76_, f77_ + 1, none⟩ = some (.int .i64 ((ys.set 0 (v79_ + 30)).getD 1 0)) := G82_.ints.at2 1 (by first | omega | (simp; omega) | simp)
      have c96_i : 1 < (ys.length : Int) := by omega
      have c96_j : (0 : Int) ≤ 1 := by omega
      have v97_g := getD_rg hr95_ (by omega) 1
      obtain ⟨v97_, hv97_⟩ : ∃ v, v = (ys.set 0 (v79_ + 30)).getD 1 0 := ⟨_, rfl⟩
      rw [← hv97_] at c96_ v97_g
      have Hv97_ := Lib.hid hv97_
      clear hv97_
      obtain ⟨v97_g1, v97_g2⟩ := v97_g
      have c99_d := G82_.cells 1 (by simp; omega)
      obtain ⟨c99_, c99_f⟩ := c99_d
      have c99_i : 1 < (ys.length : Int) := by omega
      have c99_j : (0 : Int) ≤ 1 := by omega
      have hC98_ := Chg.setCell (lo := b76_) (hi := b76_ + 1) (w59.setCell ⟨b76_, f77_, none⟩ (.int .i64 (v79_ + 30))) (p := ⟨b76_, f77_ + 1, none⟩) ⟨Nat.le_refl _, Nat.lt_succ_self _⟩ (.int .i64 (v97_ - 30))
      have G100_ := G82_.stored (j := 1) (by simp; omega) (v97_ - 30)
      have o101_ := o83_.chg hC98_ (by first | omega | (simp; omega) | simp) (by omega)
      have o102_ := o84_.chg hC98_ (by omega)
      have o103_ := o85_.chg hC98_ (by first | omega | (simp; omega) | simp) (by omega)
      have o104_ := (hC98_.cell (p := ⟨w.heap.size, 0, none⟩) (by first | omega | (simp; omega) | simp) (by first | omega | (simp; omega))).trans o86_
      have o105_ := (hC98_.cell (p := ⟨w.heap.size, 1, none⟩) (by first | omega | (simp; omega) | simp) (by first | omega | (simp; omega))).trans o87_
      have o106_ := (hC98_.frozen (p := ⟨w.heap.size, 0, none⟩) (by first | omega | (simp; omega) | simp) (by first | omega | (simp; omega))).trans o88_
      have o107_ := (hC98_.frozen (p := ⟨w.heap.size, 1, none⟩) (by first | omega | (simp; omega) | simp) (by first | omega | (simp; omega))).trans o89_
      have o108_ := (hC98_.cell (p := ⟨w18.heap.size, 0, none⟩) (by first | omega | (simp; omega) | simp) (by first | omega | (simp; omega))).trans o90_
      have o109_ := (hC98_.cell (p := ⟨w18.heap.size, 1, none⟩) (by first | omega | (simp; omega) | simp) (by first | omega | (simp; omega))).trans o91_
      have z110_ := hC98_.size
      try simp at z110_
      have B111_ := B93_.trans (hC98_.below (by omega) (by first | omega | (simp; omega) | simp))
      clear hC98_
      have HL112_ : Hid (((ys.set 0 (v79_ + 30)).set 1 (v97_ - 30)).length = ys.length) := by show _ = _; simp
      have hr113_ : ∀ y ∈ ((ys.set 0 (v79_ + 30)).set 1 (v97_ - 30)), (-61) ≤ y ∧ y ≤ (1060) := set_rg hr95_ (by omega) (by omega) (by omega)
      have hC114_ := Chg.setCell (lo := w.heap.size) (hi := w.heap.size + 1) ((w59.setCell ⟨b76_, f77_, none⟩ (.int .i64 (v79_ + 30))).setCell ⟨b76_, f77_ + 1, none⟩ (.int .i64 (v97_ - 30))) (p := ⟨w.heap.size, 0, none⟩) ⟨Nat.le_refl _, Nat.lt_succ_self _⟩ (.int .i64 E)
      have a115_ := cell_set o104_ (.int .i64 E)
      have a116_ := cell_set_off o105_ (i := 0) (by omega) (.int .i64 E)
      have f117_ := frozen_set o106_ ⟨w.heap.size, 0, none⟩ (.int .i64 E)
      have f118_ := frozen_set o107_ ⟨w.heap.size, 0, none⟩ (.int .i64 E)
      have o119_ := o101_.chg hC114_ (by first | omega | (simp; omega) | simp) (by omega)
      have o120_ := o103_.chg hC114_ (by first | omega | (simp; omega) | simp) (by omega)
      have o121_ := G100_.chg hC114_ (by first | omega | (simp; omega) | simp) (by omega)
      have o122_ := (hC114_.cell (p := ⟨w18.heap.size, 0, none⟩) (by first | omega | (simp; omega) | simp) (by first | omega | (simp; omega))).trans o108_
      have o123_ := (hC114_.cell (p := ⟨w18.heap.size, 1, none⟩) (by first | omega | (simp; omega) | simp) (by first | omega | (simp; omega))).trans o109_
      have z124_ := hC114_.size
      try simp at z124_
      have B125_ := B111_.trans (hC114_.below (by omega) (by first | omega | (simp; omega) | simp))
      clear hC114_
      have hC126_ := Chg.setCell (lo := w.heap.size) (hi := w.heap.size + 1) (((w59.setCell ⟨b76_, f77_, none⟩ (.int .i64 (v79_ + 30))).setCell ⟨b76_, f77_ + 1, none⟩ (.int .i64 (v97_ - 30))).setCell ⟨w.heap.size, 0, none⟩ (.int .i64 E)) (p := ⟨w.heap.size, 1, none⟩) ⟨Nat.le_refl _, Nat.lt_succ_self _⟩ (.slice A22_ xs.length c23_)
      have a127_ := cell_set_off a115_ (i := 1) (by omega) (.slice A22_ xs.length c23_)
      have a128_ := cell_set a116_ (.slice A22_ xs.length c23_)
      have f129_ := frozen_set f117_ ⟨w.heap.size, 1, none⟩ (.slice A22_ xs.length c23_)
      have f130_ := frozen_set f118_ ⟨w.heap.size, 1, none⟩ (.slice A22_ xs.length c23_)
      have o131_ := o119_.chg hC126_ (by first | omega | (simp; omega) | simp) (by omega)
      have o132_ := o120_.chg hC126_ (by first | omega | (simp; omega) | simp) (by omega)
      have o133_ := o121_.chg hC126_ (by first | omega | (simp; omega) | simp) (by omega)
      have o134_ := (hC126_.cell (p := ⟨w18.heap.size, 0, none⟩) (by first | omega | (simp; omega) | simp) (by first | omega | (simp; omega))).trans o122_
      have o135_ := (hC126_.cell (p := ⟨w18.heap.size, 1, none⟩) (by first | omega | (simp; omega) | simp) (by first | omega | (simp; omega))).trans o123_
      have z136_ := hC126_.size
      try simp at z136_
      have B137_ := B125_.trans (hC126_.below (by omega) (by first | omega | (simp; omega) | simp))
      clear hC126_
      go_wp2
      refine bodyPost_ret (v := .tuple #[.agg #[.int .i64 E, .slice A22_ xs.length c23_], .slice (some ⟨b76_, f77_, none⟩) ys.length c47_]) (by simp [results, Try.results18, go_sem, a127_, a128_]) rfl ?_
      exact ⟨E, A22_, c23_, (some ⟨b76_, f77_, none⟩), c47_, xs, ((ys.set 0 (v79_ + 30)).set 1 (v97_ - 30)), hx5, (by first | exact hy5 | (simp; exact hy5)), fun y hy => (by have e := hr113_ y hy; omega), (by first | rfl | simp), o132_.more (by first | omega | (simp; omega)) (by first | omega | (simp; omega)), o133_.more (by first | omega | (simp; omega)) (by first | omega | (simp; omega)), B137_⟩
    · have h75_d : decide ((ys.length : Int) > 1) = false := decide_eq_false h75_
      have hC76_ := Chg.setCell (lo := w.heap.size) (hi := w.heap.size + 1) w59 (p := ⟨w.heap.size, 0, none⟩) ⟨Nat.le_refl _, Nat.lt_succ_self _⟩ (.int .i64 E)
      have a77_ := cell_set o66_ (.int .i64 E)
      have a78_ := cell_set_off o67_ (i := 0) (by omega) (.int .i64 E)
      have f79_ := frozen_set o68_ ⟨w.heap.size, 0, none⟩ (.int .i64 E)
      have f80_ := frozen_set o69_ ⟨w.heap.size, 0, none⟩ (.int .i64 E)
      have o81_ := o63_.chg hC76_ (by first | omega | (simp; omega) | simp) (by omega)
      have o82_ := o64_.chg hC76_ (by first | omega | (simp; omega) | simp) (by omega)
      have o83_ := o65_.chg hC76_ (by first | omega | (simp; omega) | simp) (by omega)
      have o84_ := (hC76_.cell (p := ⟨w18.heap.size, 0, none⟩) (by first | omega | (simp; omega) | simp) (by first | omega | (simp; omega))).trans o70_
      have o85_ := (hC76_.cell (p := ⟨w18.heap.size, 1, none⟩) (by first | omega | (simp; omega) | simp) (by first | omega | (simp; omega))).trans o71_
      have z86_ := hC76_.size
      try simp at z86_
      have B87_ := B73_.trans (hC76_.below (by omega) (by first | omega | (simp; omega) | simp))
      clear hC76_
      have hC88_ := Chg.setCell (lo := w.heap.size) (hi := w.heap.size + 1) (w59.setCell ⟨w.heap.size, 0, none⟩ (.int .i64 E)) (p := ⟨w.heap.size, 1, none⟩) ⟨Nat.le_refl _, Nat.lt_succ_self _⟩ (.slice A22_ xs.length c23_)
      have a89_ := cell_set_off a77_ (i := 1) (by omega) (.slice A22_ xs.length c23_)
      have a90_ := cell_set a78_ (.slice A22_ xs.length c23_)
      have f91_ := frozen_set f79_ ⟨w.heap.size, 1, none⟩ (.slice A22_ xs.length c23_)
      have f92_ := frozen_set f80_ ⟨w.heap.size, 1, none⟩ (.slice A22_ xs.length c23_)
      have o93_ := o81_.chg hC88_ (by first | omega | (simp; omega) | simp) (by omega)
      have o94_ := o82_.chg hC88_ (by first | omega | (simp; omega) | simp) (by omega)
      have o95_ := o83_.chg hC88_ (by first | omega | (simp; omega) | simp) (by omega)
      have o96_ := (hC88_.cell (p := ⟨w18.heap.size, 0, none⟩) (by first | omega | (simp; omega) | simp) (by first | omega | (simp; omega))).trans o84_
      have o97_ := (hC88_.cell (p := ⟨w18.heap.size, 1, none⟩) (by first | omega | (simp; omega) | simp) (by first | omega | (simp; omega))).trans o85_
      have z98_ := hC88_.size
      try simp at z98_
      have B99_ := B87_.trans (hC88_.below (by omega) (by first | omega | (simp; omega) | simp))
      clear hC88_
      go_wp2
      refine bodyPost_ret (v := .tuple #[.agg #[.int .i64 E, .slice A22_ xs.length c23_], .slice A46_ ys.length c47_]) (by simp [results, Try.results18, go_sem, a89_, a90_]) rfl ?_
      exact ⟨E, A22_, c23_, A46_, c47_, xs, ys, hx5, (by first | exact hy5 | (simp; exact hy5)), fun y hy => (by have e := hyb y hy; omega), (by first | rfl | simp), o94_.more (by first | omega | (simp; omega)) (by first | omega | (simp; omega)), o95_.more (by first | omega | (simp; omega)) (by first | omega | (simp; omega)), B99_⟩
  · have h74_b : (u60_ == 0) = false := by simpa using h74_
    have h74_n : (u60_ != 0) = true := by simpa using h74_
    have hC75_ := Chg.setCell (lo := w.heap.size) (hi := w.heap.size + 1) w59 (p := ⟨w.heap.size, 0, none⟩) ⟨Nat.le_refl _, Nat.lt_succ_self _⟩ (.int .i64 E)
    have a76_ := cell_set o66_ (.int .i64 E)
    have a77_ := cell_set_off o67_ (i := 0) (by omega) (.int .i64 E)
    have f78_ := frozen_set o68_ ⟨w.heap.size, 0, none⟩ (.int .i64 E)
    have f79_ := frozen_set o69_ ⟨w.heap.size, 0, none⟩ (.int .i64 E)
    have o80_ := o63_.chg hC75_ (by first | omega | (simp; omega) | simp) (by omega)
    have o81_ := o64_.chg hC75_ (by first | omega | (simp; omega) | simp) (by omega)
    have o82_ := o65_.chg hC75_ (by first | omega | (simp; omega) | simp) (by omega)
    have o83_ := (hC75_.cell (p := ⟨w18.heap.size, 0, none⟩) (by first | omega | (simp; omega) | simp) (by first | omega | (simp; omega))).trans o70_
    have o84_ := (hC75_.cell (p := ⟨w18.heap.size, 1, none⟩) (by first | omega | (simp; omega) | simp) (by first | omega | (simp; omega))).trans o71_
    have z85_ := hC75_.size
    try simp at z85_
    have B86_ := B73_.trans (hC75_.below (by omega) (by first | omega | (simp; omega) | simp))
    clear hC75_
    have hC87_ := Chg.setCell (lo := w.heap.size) (hi := w.heap.size + 1) (w59.setCell ⟨w.heap.size, 0, none⟩ (.int .i64 E)) (p := ⟨w.heap.size, 1, none⟩) ⟨Nat.le_refl _, Nat.lt_succ_self _⟩ (.slice A22_ xs.length c23_)
    have a88_ := cell_set_off a76_ (i := 1) (by omega) (.slice A22_ xs.length c23_)
    have a89_ := cell_set a77_ (.slice A22_ xs.length c23_)
    have f90_ := frozen_set f78_ ⟨w.heap.size, 1, none⟩ (.slice A22_ xs.length c23_)
    have f91_ := frozen_set f79_ ⟨w.heap.size, 1, none⟩ (.slice A22_ xs.length c23_)
    have o92_ := o80_.chg hC87_ (by first | omega | (simp; omega) | simp) (by omega)
    have o93_ := o81_.chg hC87_ (by first | omega | (simp; omega) | simp) (by omega)
    have o94_ := o82_.chg hC87_ (by first | omega | (simp; omega) | simp) (by omega)
    have o95_ := (hC87_.cell (p := ⟨w18.heap.size, 0, none⟩) (by first | omega | (simp; omega) | simp) (by first | omega | (simp; omega))).trans o83_
    have o96_ := (hC87_.cell (p := ⟨w18.heap.size, 1, none⟩) (by first | omega | (simp; omega) | simp) (by first | omega | (simp; omega))).trans o84_
    have z97_ := hC87_.size
    try simp at z97_
    have B98_ := B86_.trans (hC87_.below (by omega) (by first | omega | (simp; omega) | simp))
    clear hC87_
    go_wp2
    refine bodyPost_ret (v := .tuple #[.agg #[.int .i64 E, .slice A22_ xs.length c23_], .slice A46_ ys.length c47_]) (by simp [results, Try.results18, go_sem, a88_, a89_]) rfl ?_
    exact ⟨E, A22_, c23_, A46_, c47_, xs, ys, hx5, (by first | exact hy5 | (simp; exact hy5)), fun y hy => (by have e := hyb y hy; omega), (by first | rfl | simp), o93_.more (by first | omega | (simp; omega)) (by first | omega | (simp; omega)), o94_.more (by first | omega | (simp; omega)) (by first | omega | (simp; omega)), B98_⟩

set_option maxRecDepth 10000 in
set_option maxHeartbeats 2000000 in
theorem drawRowOrder_any (A : Option Addr) (c : Nat) (bs : List Int) (w : World) (h : Bytes w w.heap.size A bs) (hl : bs.length ≤ 9223372036854775807) (hc : bs.length ≤ c) :
    Calls Try.prog 30 #[.slice A bs.length c] w (DrawnRows w) := by
  go_enter Try.func30, Try.ntmps30
  go_wp2_with fail
  refine (l20Open_any A c bs _ (h.more (by first | omega | (simp; omega) | simp)) (by omega) hc).mono ?_
  rintro e w1 ⟨rfl, hb3_, rc1_, rb1_, rl1_, rd2_⟩
  have o4_ := h.below hb3_ (by first | omega | (simp; omega) | simp)
  have z5_ := hb3_.size
  have B6_ := (Below.refl w.heap.size w).trans (hb3_.mono (by first | omega | (simp; omega) | simp))
  clear hb3_
  have l7_ := rd2_.lt
  have o8_ := o4_.below ((Below.refl _ _).alloc (Nat.le_refl _) (.cells #[] 3)) (by first | omega | (simp; omega) | simp)
  have o9_ := rd2_.alloc (.cells #[] 3)
  have B10_ := B6_.alloc (by first | omega | (simp; omega) | simp) (.cells #[] 3)
  have G11_ : Grow (w1.alloc (.cells #[] 3)) (w1.heap.size) 0 ([] : List Int) := by have e := grow_lit w1 ([] : List Int) (by simp); (try simp only [hsz] at e); exact e
  have l12_ := G11_.lt
  have HL13_ : Hid (([] : List Int).length = 0) := rfl
  have o14_ := o8_.below ((Below.refl _ _).alloc (Nat.le_refl _) (.cells #[] 3)) (by first | omega | (simp; omega) | simp)
  have o15_ := o9_.alloc (.cells #[] 3)
  have o16_ := G11_.alloc (.cells #[] 3)
  have B17_ := B10_.alloc (by first | omega | (simp; omega) | simp) (.cells #[] 3)
  have G18_ : Grow ((w1.alloc (.cells #[] 3)).alloc (.cells #[] 3)) (w1.heap.size + 1) 0 ([] : List Int) := by have e := grow_lit (w1.alloc (.cells #[] 3)) ([] : List Int) (by simp); (try simp only [hsz] at e); exact e
  have l19_ := G18_.lt
  have HL20_ : Hid (([] : List Int).length = 0) := rfl
  go_wp2_with fail
  refine (pick_to (w.heap.size) A rc1_ rb1_ _ 6 _ o15_ (by omega) (by omega) rl1_ (by omega)).mono ?_
  rintro e w21 ⟨u22_, rfl, u22_l, u22_h, rd23_, hC24_⟩
  have o25_ := o14_.chg hC24_ (by first | omega | (simp; omega) | simp) (by omega)
  have o26_ := o16_.chg hC24_ (by omega)
  have o27_ := G18_.chg hC24_ (by omega)
  have z28_ := hC24_.size
  try simp at z28_
  have B29_ := B17_.trans (hC24_.below (by omega) (by first | omega | (simp; omega) | simp))
  clear hC24_
  go_wp2_with fail
  refine (pick_to (w.heap.size) A rc1_ rb1_ _ 30 _ rd23_ (by omega) (by omega) rl1_ (by omega)).mono ?_
  rintro e w30 ⟨u31_, rfl, u31_l, u31_h, rd32_, hC33_⟩
  have o34_ := o25_.chg hC33_ (by first | omega | (simp; omega) | simp) (by omega)
  have o35_ := o26_.chg hC33_ (by omega)
  have o36_ := o27_.chg hC33_ (by omega)
  have z37_ := hC33_.size
  have B38_ := B29_.trans (hC33_.below (by omega) (by first | omega | (simp; omega) | simp))
  clear hC33_
  have hq39_ : IntKind.i64.wrap (u31_.tdiv 29) = u31_ / 29 := by rw [Int.tdiv_eq_ediv_of_nonneg (by omega)]; exact IntWalk.i64_in _ (by omega)
  go_wp2
  go_loopw [7, 5, 6] (fun k va vb wr => ∃ m : Nat, ∃ xs : List Int, ∃ ys : List Int, ∃ ga ca : Nat, ∃ gb cb : Nat, k = .int .i64 m ∧ va = .slice (some ⟨ga, 0, none⟩) xs.length ca ∧ vb = .slice (some ⟨gb, 0, none⟩) ys.length cb ∧ (m + xs.length ≤ 17) ∧ (ys.length = xs.length) ∧ (¬ ga = gb) ∧ (∀ y ∈ xs, -1 ≤ y ∧ y ≤ 1) ∧ (∀ y ∈ ys, -1 ≤ y ∧ y ≤ 1) ∧ w.heap.size + 1 ≤ ga ∧ w.heap.size + 1 ≤ gb ∧ Grow wr ga ca xs ∧ Grow wr gb cb ys ∧ Below w.heap.size w wr ∧ w30.heap.size ≤ wr.heap.size ∧ Bytes wr (w.heap.size) A bs ∧ (∃ q : Nat, q ≤ 36 - 2 * m ∧ Rd wr (w.heap.size) A rc1_ rb1_ q)) (fun k va vb _ => (intOf k).toNat)
  case atStart => exact ⟨((u22_ + ((u31_ / 29) * 12))).toNat, [], [], w1.heap.size, 0, (w1.heap.size + 1), 0, (by congr 1; omega), (slice_n (by first | omega | simp)), (slice_n (by first | omega | simp)), (by simp; omega), rfl, (by omega), (by simp), (by simp), (by omega), (by omega), o35_, o36_, B38_, (by first | omega | (simp; omega) | simp), o34_, ⟨_, by omega, rd32_⟩⟩
  case round =>
    obtain ⟨m, xs, ys, ga, ca, gb, cb, rfl, rfl, rfl, hlm, hly, hne, hbx, hby, galb, gblb, G41_, G42_, k43_, k44_, k45_, ⟨k46_q, k46_h, k46_⟩⟩ := hrel
    obtain ⟨w40, rfl⟩ : ∃ x, x = wr := ⟨_, rfl⟩
    have l47_ := G41_.lt
    have l48_ := G42_.lt
    have hlb : ys.length ≤ 17 := by omega
    have HLY := Lib.hid hly
    clear hly
    by_cases hlt0 : 0 < m
    · obtain ⟨q, rfl⟩ : ∃ q, m = q + 1 := ⟨m - 1, by omega⟩
      go_wp2_with fail
      refine (pick_to (w.heap.size) A rc1_ rb1_ _ 3 _ k46_ (by omega) (by omega) rl1_ (by omega)).mono ?_
      rintro e w49 ⟨u50_, rfl, u50_l, u50_h, rd51_, hC52_⟩
      have o53_ := k45_.chg hC52_ (by first | omega | (simp; omega) | simp) (by omega)
      have o54_ := G41_.chg hC52_ (by omega)
      have o55_ := G42_.chg hC52_ (by omega)
      have z56_ := hC52_.size
      have B57_ := k43_.trans (hC52_.below (by omega) (by first | omega | (simp; omega) | simp))
      clear hC52_
      have o58_ := o53_.below ((Below.refl _ _).alloc (Nat.le_refl _) (.cells #[.int .i64 (u50_ - 1)] 3)) (by first | omega | (simp; omega) | simp)
      have o59_ := rd51_.alloc (.cells #[.int .i64 (u50_ - 1)] 3)
      have o60_ := o54_.alloc (.cells #[.int .i64 (u50_ - 1)] 3)
      have o61_ := o55_.alloc (.cells #[.int .i64 (u50_ - 1)] 3)
      have B62_ := B57_.alloc (by first | omega | (simp; omega) | simp) (.cells #[.int .i64 (u50_ - 1)] 3)
      have G63_ : Grow (w49.alloc (.cells #[.int .i64 (u50_ - 1)] 3)) (w49.heap.size) 1 ([(u50_ - 1)] : List Int) := by have e := grow_lit w49 ([(u50_ - 1)] : List Int) (by simp); (try simp only [hsz] at e); exact e
      have l64_ := G63_.lt
      have HL65_ : Hid (([(u50_ - 1)] : List Int).length = 1) := rfl
      go_upto_region 8 with (at_builtin; (refine append_gr (by rfl) _ _ (by rfl) (xs := xs) (ys := ([(u50_ - 1)] : List Int)) (by rfl) (by rfl) o60_ (by rfl) (by have e := HL65_.out; omega) (G63_.ints.read) (by omega) ?_; intro g66_ c67_ w68 G68_ hC69_ hg70_))
      have o72_ := o58_.chg hC69_ (by first | omega | (simp; omega) | simp) (by omega)
      have o73_ := o59_.chg hC69_ (by omega)
      have o74_ := o61_.chg hC69_ (by omega)
      have o75_ := G63_.chg hC69_ (by omega)
      have z76_ := hC69_.size
      try simp at z76_
      have B77_ := B62_.trans (hC69_.below (by omega) (by first | omega | (simp; omega) | simp))
      clear hC69_
      have l78_ := G68_.lt
      have HL79_ : Hid ((xs ++ ([(u50_ - 1)] : List Int)).length = xs.length + 1) := by show _ = _; rw [List.length_append, HL65_.out]
      go_wp2_with fail
      refine (pick_to (w.heap.size) A rc1_ rb1_ _ 3 _ o73_ (by omega) (by omega) rl1_ (by omega)).mono ?_
      rintro e w80 ⟨u81_, rfl, u81_l, u81_h, rd82_, hC83_⟩
      have o84_ := o72_.chg hC83_ (by first | omega | (simp; omega) | simp) (by omega)
      have o85_ := o74_.chg hC83_ (by omega)
      have o86_ := o75_.chg hC83_ (by omega)
      have o87_ := G68_.chg hC83_ (by omega)
      have z88_ := hC83_.size
      have B89_ := B77_.trans (hC83_.below (by omega) (by first | omega | (simp; omega) | simp))
      clear hC83_
      have o90_ := o84_.below ((Below.refl _ _).alloc (Nat.le_refl _) (.cells #[.int .i64 (u81_ - 1)] 3)) (by first | omega | (simp; omega) | simp)
      have o91_ := rd82_.alloc (.cells #[.int .i64 (u81_ - 1)] 3)
      have o92_ := o85_.alloc (.cells #[.int .i64 (u81_ - 1)] 3)
      have o93_ := o86_.alloc (.cells #[.int .i64 (u81_ - 1)] 3)
      have o94_ := o87_.alloc (.cells #[.int .i64 (u81_ - 1)] 3)
      have B95_ := B89_.alloc (by first | omega | (simp; omega) | simp) (.cells #[.int .i64 (u81_ - 1)] 3)
      have G96_ : Grow (w80.alloc (.cells #[.int .i64 (u81_ - 1)] 3)) (w80.heap.size) 1 ([(u81_ - 1)] : List Int) := by have e := grow_lit w80 ([(u81_ - 1)] : List Int) (by simp); (try simp only [hsz] at e); exact e
      have l97_ := G96_.lt
      have HL98_ : Hid (([(u81_ - 1)] : List Int).length = 1) := rfl
      go_upto_region 6 with (at_builtin; (refine append_gr (by rfl) _ _ (by rfl) (xs := ys) (ys := ([(u81_ - 1)] : List Int)) (by rfl) (by rfl) o92_ (by rfl) (by have e := HL98_.out; omega) (G96_.ints.read) (by omega) ?_; intro g99_ c100_ w101 G101_ hC102_ hg103_))
      have o105_ := o90_.chg hC102_ (by first | omega | (simp; omega) | simp) (by omega)
      have o106_ := o91_.chg hC102_ (by omega)
      have o107_ := o93_.chg hC102_ (by omega)
      have o108_ := o94_.chg hC102_ (by omega)
      have o109_ := G96_.chg hC102_ (by omega)
      have z110_ := hC102_.size
      try simp at z110_
      have B111_ := B95_.trans (hC102_.below (by omega) (by first | omega | (simp; omega) | simp))
      clear hC102_
      have l112_ := G101_.lt
      have HL113_ : Hid ((ys ++ ([(u81_ - 1)] : List Int)).length = ys.length + 1) := by show _ = _; rw [List.length_append, HL98_.out]
      go_wp2
      go_roundw
      case rel => exact ⟨q, (xs ++ ([(u50_ - 1)] : List Int)), (ys ++ ([(u81_ - 1)] : List Int)), g66_, c67_, g99_, c100_, by go_num, (slice_n (by first | omega | simp)), (slice_n (by first | omega | simp)), by simp; omega, by have e := HLY.out; simp; omega, by omega, snoc_rg hbx (by omega), snoc_rg hby (by omega), (by omega), (by omega), o108_, G101_, B111_, (by first | omega | (simp; omega) | simp), o105_, ⟨_, by omega, o106_⟩⟩
      case measure => simp [intOf] <;> omega
    · obtain rfl : m = 0 := by omega
      go_wp2_with fail
      refine (pick_to (w.heap.size) A rc1_ rb1_ _ 4 _ k46_ (by omega) (by omega) rl1_ (by omega)).mono ?_
      rintro e w49 ⟨u50_, rfl, u50_l, u50_h, rd51_, hC52_⟩
      have o53_ := k45_.chg hC52_ (by first | omega | (simp; omega) | simp) (by omega)
      have o54_ := G41_.chg hC52_ (by omega)
      have o55_ := G42_.chg hC52_ (by omega)
      have z56_ := hC52_.size
      have B57_ := k43_.trans (hC52_.below (by omega) (by first | omega | (simp; omega) | simp))
      clear hC52_
      by_cases h58_ : u50_ = 0
      · have h58_b : (u50_ == 0) = true := by simpa using h58_
        have h58_n : (u50_ != 0) = false := by simpa using h58_
        have h58_le : u50_ ≤ 0 := by omega
        have h58_ge : 0 ≤ u50_ := by omega
        have Hh58_ := Lib.hid h58_
        clear h58_
        have o59_ := o53_.below ((Below.refl _ _).alloc (Nat.le_refl _) (.cells #[] 3)) (by first | omega | (simp; omega) | simp)
        have o60_ := rd51_.alloc (.cells #[] 3)
        have o61_ := o54_.alloc (.cells #[] 3)
        have o62_ := o55_.alloc (.cells #[] 3)
        have B63_ := B57_.alloc (by first | omega | (simp; omega) | simp) (.cells #[] 3)
        have G64_ : Grow (w49.alloc (.cells #[] 3)) (w49.heap.size) 0 ([] : List Int) := by have e := grow_lit w49 ([] : List Int) (by simp); (try simp only [hsz] at e); exact e
        have l65_ := G64_.lt
        have HL66_ : Hid (([] : List Int).length = 0) := rfl
        go_upto_region 11 with (at_builtin; (refine append_gr (by rfl) _ _ (by rfl) (xs := ([] : List Int)) (ys := xs) (by rfl) (by have e := HL66_.out; omega) G64_ (by rfl) (by rfl) (o61_.ints.read) (by omega) ?_; intro g67_ c68_ w69 G69_ hC70_ hg71_))
        have o73_ := o59_.chg hC70_ (by first | omega | (simp; omega) | simp) (by omega)
        have o74_ := o60_.chg hC70_ (by omega)
        have o75_ := o61_.chg hC70_ (by omega)
        have o76_ := o62_.chg hC70_ (by omega)
        have z77_ := hC70_.size
        try simp at z77_
        have B78_ := B63_.trans (hC70_.below (by omega) (by first | omega | (simp; omega) | simp))
        clear hC70_
        have l79_ := G69_.lt
        have HL80_ : Hid ((([] : List Int) ++ xs).length = 0 + xs.length) := by show _ = _; rw [List.length_append, HL66_.out]
        go_wp2_with fail
        refine (odd_to (w.heap.size) A rc1_ rb1_ _ 12 _ o74_ (by omega) (by omega) rl1_ (by omega)).mono ?_
        rintro e w81 ⟨u82_, rfl, ⟨rq85_, rq85_h, rd83_⟩, hC84_⟩
        have o86_ := o73_.chg hC84_ (by first | omega | (simp; omega) | simp) (by omega)
        have o87_ := o75_.chg hC84_ (by omega)
        have o88_ := o76_.chg hC84_ (by omega)
        have o89_ := G69_.chg hC84_ (by omega)
        have z90_ := hC84_.size
        have B91_ := B78_.trans (hC84_.below (by omega) (by first | omega | (simp; omega) | simp))
        clear hC84_
        cases u82_
        · go_wp2
          go_ret2
          exact ⟨(some ⟨ga, 0, none⟩), ca, (some ⟨g67_, 0, none⟩), c68_, xs, (([] : List Int) ++ xs), (by first | omega | (simp; omega)), (by first | omega | (simp; omega)), fun y hy => by (try simp at hy); first | exact hbx y hy | exact hby y hy | (rcases hy with hy | hy <;> first | exact hbx y hy | exact hby y hy | omega), fun y hy => by (try simp at hy); first | exact hbx y hy | exact hby y hy | (rcases hy with hy | hy <;> first | exact hbx y hy | exact hby y hy | omega), (by first | rfl | (simp; done) | (simp; omega)), o87_.own.more (by omega) (by omega), o89_.own.more (by omega) (by omega), B91_⟩
        · have o92_ := o86_.below ((Below.refl _ _).alloc (Nat.le_refl _) (.cells #[.int .i64 0] 3)) (by first | omega | (simp; omega) | simp)
          have o93_ := rd83_.alloc (.cells #[.int .i64 0] 3)
          have o94_ := o87_.alloc (.cells #[.int .i64 0] 3)
          have o95_ := o88_.alloc (.cells #[.int .i64 0] 3)
          have o96_ := o89_.alloc (.cells #[.int .i64 0] 3)
          have B97_ := B91_.alloc (by first | omega | (simp; omega) | simp) (.cells #[.int .i64 0] 3)
          have G98_ : Grow (w81.alloc (.cells #[.int .i64 0] 3)) (w81.heap.size) 1 ([0] : List Int) := by have e := grow_lit w81 ([0] : List Int) (by simp); (try simp only [hsz] at e); exact e
          have l99_ := G98_.lt
          have HL100_ : Hid (([0] : List Int).length = 1) := rfl
          go_upto_region 13 with (at_builtin; (refine append_gr (by rfl) _ _ (by rfl) (xs := (([] : List Int) ++ xs)) (ys := ([0] : List Int)) (by rfl) (by have e := HL80_.out; omega) o96_ (by rfl) (by have e := HL100_.out; omega) (G98_.ints.read) (by omega) ?_; intro g101_ c102_ w103 G103_ hC104_ hg105_))
          have o107_ := o92_.chg hC104_ (by first | omega | (simp; omega) | simp) (by omega)
          have o108_ := o93_.chg hC104_ (by omega)
          have o109_ := o94_.chg hC104_ (by omega)
          have o110_ := o95_.chg hC104_ (by omega)
          have o111_ := G98_.chg hC104_ (by omega)
          have z112_ := hC104_.size
          try simp at z112_
          have B113_ := B97_.trans (hC104_.below (by omega) (by first | omega | (simp; omega) | simp))
          clear hC104_
          have l114_ := G103_.lt
          have HL115_ : Hid (((([] : List Int) ++ xs) ++ ([0] : List Int)).length = (0 + xs.length) + 1) := by show _ = _; rw [List.length_append, HL80_.out, HL100_.out]
          go_wp2
          go_ret2
          exact ⟨(some ⟨ga, 0, none⟩), ca, (some ⟨g101_, 0, none⟩), c102_, xs, ((([] : List Int) ++ xs) ++ ([0] : List Int)), (by first | omega | (simp; omega)), (by first | omega | (simp; omega)), fun y hy => by (try simp at hy); first | exact hbx y hy | exact hby y hy | (rcases hy with hy | hy <;> first | exact hbx y hy | exact hby y hy | omega), fun y hy => by (try simp at hy); first | exact hbx y hy | exact hby y hy | (rcases hy with hy | hy <;> first | exact hbx y hy | exact hby y hy | omega), (by first | rfl | (simp; done) | (simp; omega)), o109_.own.more (by omega) (by omega), G103_.own.more (by omega) (by omega), B113_⟩
      · have h58_b : (u50_ == 0) = false := by simpa using h58_
        have h58_n : (u50_ != 0) = true := by simpa using h58_
        go_wp2_with fail
        refine (odd_to (w.heap.size) A rc1_ rb1_ _ 12 _ rd51_ (by omega) (by omega) rl1_ (by omega)).mono ?_
        rintro e w59 ⟨u60_, rfl, ⟨rq63_, rq63_h, rd61_⟩, hC62_⟩
        have o64_ := o53_.chg hC62_ (by first | omega | (simp; omega) | simp) (by omega)
        have o65_ := o54_.chg hC62_ (by omega)
        have o66_ := o55_.chg hC62_ (by omega)
        have z67_ := hC62_.size
        have B68_ := B57_.trans (hC62_.below (by omega) (by first | omega | (simp; omega) | simp))
        clear hC62_
        cases u60_
        · go_wp2
          go_ret2
          exact ⟨(some ⟨ga, 0, none⟩), ca, (some ⟨gb, 0, none⟩), cb, xs, ys, (by first | omega | (simp; omega)), (by first | omega | (simp; omega)), fun y hy => by (try simp at hy); first | exact hbx y hy | exact hby y hy | (rcases hy with hy | hy <;> first | exact hbx y hy | exact hby y hy | omega), fun y hy => by (try simp at hy); first | exact hbx y hy | exact hby y hy | (rcases hy with hy | hy <;> first | exact hbx y hy | exact hby y hy | omega), (by first | rfl | (simp; done) | (simp; omega)), o65_.own.more (by omega) (by omega), o66_.own.more (by omega) (by omega), B68_⟩
        · have o69_ := o64_.below ((Below.refl _ _).alloc (Nat.le_refl _) (.cells #[.int .i64 0] 3)) (by first | omega | (simp; omega) | simp)
          have o70_ := rd61_.alloc (.cells #[.int .i64 0] 3)
          have o71_ := o65_.alloc (.cells #[.int .i64 0] 3)
          have o72_ := o66_.alloc (.cells #[.int .i64 0] 3)
          have B73_ := B68_.alloc (by first | omega | (simp; omega) | simp) (.cells #[.int .i64 0] 3)
          have G74_ : Grow (w59.alloc (.cells #[.int .i64 0] 3)) (w59.heap.size) 1 ([0] : List Int) := by have e := grow_lit w59 ([0] : List Int) (by simp); (try simp only [hsz] at e); exact e
          have l75_ := G74_.lt
          have HL76_ : Hid (([0] : List Int).length = 1) := rfl
          go_upto_region 13 with (at_builtin; (refine append_gr (by rfl) _ _ (by rfl) (xs := ys) (ys := ([0] : List Int)) (by rfl) (by rfl) o72_ (by rfl) (by have e := HL76_.out; omega) (G74_.ints.read) (by omega) ?_; intro g77_ c78_ w79 G79_ hC80_ hg81_))
          have o83_ := o69_.chg hC80_ (by first | omega | (simp; omega) | simp) (by omega)
          have o84_ := o70_.chg hC80_ (by omega)
          have o85_ := o71_.chg hC80_ (by omega)
          have o86_ := G74_.chg hC80_ (by omega)
          have z87_ := hC80_.size
          try simp at z87_
          have B88_ := B73_.trans (hC80_.below (by omega) (by first | omega | (simp; omega) | simp))
          clear hC80_
          have l89_ := G79_.lt
          have HL90_ : Hid ((ys ++ ([0] : List Int)).length = ys.length + 1) := by show _ = _; rw [List.length_append, HL76_.out]
          go_wp2
          go_ret2
          exact ⟨(some ⟨ga, 0, none⟩), ca, (some ⟨g77_, 0, none⟩), c78_, xs, (ys ++ ([0] : List Int)), (by first | omega | (simp; omega)), (by first | omega | (simp; omega)), fun y hy => by (try simp at hy); first | exact hbx y hy | exact hby y hy | (rcases hy with hy | hy <;> first | exact hbx y hy | exact hby y hy | omega), fun y hy => by (try simp at hy); first | exact hbx y hy | exact hby y hy | (rcases hy with hy | hy <;> first | exact hbx y hy | exact hby y hy | omega), (by first | rfl | (simp; done) | (simp; omega)), o85_.own.more (by omega) (by omega), G79_.own.more (by omega) (by omega), B88_⟩


end Go.Proofs.Ythhcjomfpjopdaa
