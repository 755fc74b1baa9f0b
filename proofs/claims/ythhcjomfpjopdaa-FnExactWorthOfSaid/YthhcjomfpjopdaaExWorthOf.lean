/-
  The exact law of WorthOf returns true, and writes nothing that was there. No condition.
-/
import Derived.Test.YthhcjomfpjopdaaExactCase
import Derived.Test.YthhcjomfpjopdaaFx
import Derived.Test.YthhcjomfpjopdaaSpec6
import Derived.Test.YthhcjomfpjopdaaGame6I
import Derived.Deep.RegionHeld3
import Derived.Deep.Cut
namespace Go.Proofs.Ythhcjomfpjopdaa
open Go.RowKit

set_option maxRecDepth 10000 in
set_option maxHeartbeats 2000000 in
theorem exWorthOf_walk (E : Int) (A : Option Addr) (c : Nat) (xs : List Int) (s : Int) (w : World) (h : Ints w 0 w.heap.size A xs) (hl : xs.length ≤ 1048576) :
    Calls Try.prog 9 #[.agg #[.int .i64 E, .slice A xs.length c], .int .i64 s] w fun e w' => e = .returned (.bool true) ∧ Below w.heap.size w w' := by
  go_enter Try.func9, Try.ntmps9
  have Htrue : Hid True := trivial
  have o1_ := h.alloc (by first | omega | (simp; omega) | simp) (.cells #[.int .i64 E, .slice A xs.length c] 45)
  have B2_ := (Below.refl w.heap.size w).alloc (Nat.le_refl _) (.cells #[.int .i64 E, .slice A xs.length c] 45)
  have a3_ : (w.alloc (.cells #[.int .i64 E, .slice A xs.length c] 45)).cell? ⟨w.heap.size, 0, none⟩ = some (.int .i64 E) := by simp [go_sem]
  have a4_ : (w.alloc (.cells #[.int .i64 E, .slice A xs.length c] 45)).cell? ⟨w.heap.size, 1, none⟩ = some (.slice A xs.length c) := by simp [go_sem]
  go_wp2_with fail
  refine (szCase_yes E A c xs.length 1048576 _ (by omega) (by omega)).mono ?_
  rintro e w5 ⟨rfl, hb5_⟩
  have o6_ := o1_.below hb5_ (by first | omega | (simp; omega) | simp)
  have o7_ := (hb5_.cell (p := ⟨w.heap.size, 0, none⟩) (by first | omega | (simp; omega) | simp)).trans a3_
  have o8_ := (hb5_.cell (p := ⟨w.heap.size, 1, none⟩) (by first | omega | (simp; omega) | simp)).trans a4_
  have z9_ := hb5_.size
  try simp at z9_
  have B10_ := B2_.trans (hb5_.mono (by first | omega | (simp; omega) | simp))
  clear hb5_
  have h11_ : ¬ ((1048576 - (xs.length : Int)) < 0) := by omega
  have h11_d : decide ((1048576 - (xs.length : Int)) < 0) = false := decide_eq_false h11_
  go_wp2_with fail
  refine (toCase_any E A c xs _ _ _ o6_ (by first | omega | (simp; omega) | simp) (by omega)).mono ?_
  rintro e w12 ⟨A13_, c14_, rfl, ho15_, hb12_⟩
  have o16_ := o6_.below hb12_ (by first | omega | (simp; omega) | simp)
  have o17_ := (hb12_.cell (p := ⟨w.heap.size, 0, none⟩) (by first | omega | (simp; omega) | simp)).trans o7_
  have o18_ := (hb12_.cell (p := ⟨w.heap.size, 1, none⟩) (by first | omega | (simp; omega) | simp)).trans o8_
  have z19_ := hb12_.size
  have B20_ := B10_.trans (hb12_.mono (by first | omega | (simp; omega) | simp))
  clear hb12_
  go_wp2_with fail
  refine (specWorthOf_any E A13_ c14_ xs s _ _ _ ho15_.ints (by first | omega | (simp; omega) | simp) (by omega)).mono ?_
  rintro e w21 ⟨he, hb21_⟩
  obtain ⟨v22_, hv22_⟩ : ∃ v, worthOf E xs s = v := ⟨_, rfl⟩
  rw [hv22_] at he
  subst he
  have Hv22_ := Lib.hid hv22_
  clear hv22_
  have o23_ := o16_.below hb21_ (by first | omega | (simp; omega) | simp)
  have o24_ := ho15_.below hb21_ (by first | omega | (simp; omega) | simp)
  have o25_ := (hb21_.cell (p := ⟨w.heap.size, 0, none⟩) (by first | omega | (simp; omega) | simp)).trans o17_
  have o26_ := (hb21_.cell (p := ⟨w.heap.size, 1, none⟩) (by first | omega | (simp; omega) | simp)).trans o18_
  have z27_ := hb21_.size
  have B28_ := B20_.trans (hb21_.mono (by first | omega | (simp; omega) | simp))
  clear hb21_
  go_wp2_with fail
  refine (toCase_any E A c xs _ _ _ o23_ (by first | omega | (simp; omega) | simp) (by omega)).mono ?_
  rintro e w29 ⟨A30_, c31_, rfl, ho32_, hb29_⟩
  have o33_ := o23_.below hb29_ (by first | omega | (simp; omega) | simp)
  have o34_ := o24_.below hb29_ (by first | omega | (simp; omega) | simp)
  have o35_ := (hb29_.cell (p := ⟨w.heap.size, 0, none⟩) (by first | omega | (simp; omega) | simp)).trans o25_
  have o36_ := (hb29_.cell (p := ⟨w.heap.size, 1, none⟩) (by first | omega | (simp; omega) | simp)).trans o26_
  have z37_ := hb29_.size
  have B38_ := B28_.trans (hb29_.mono (by first | omega | (simp; omega) | simp))
  clear hb29_
  have o39_ := o33_.alloc (by first | omega | (simp; omega) | simp) (.cells #[.int .i64 E, .slice A30_ xs.length c31_] 25)
  have o40_ := o34_.alloc (by first | omega | (simp; omega) | simp) (.cells #[.int .i64 E, .slice A30_ xs.length c31_] 25)
  have o41_ := ho32_.alloc (by first | omega | (simp; omega) | simp) (.cells #[.int .i64 E, .slice A30_ xs.length c31_] 25)
  have o42_ := cell_alloc (o := (.cells #[.int .i64 E, .slice A30_ xs.length c31_] 25)) o35_ (by first | omega | (simp; omega) | simp)
  have o43_ := cell_alloc (o := (.cells #[.int .i64 E, .slice A30_ xs.length c31_] 25)) o36_ (by first | omega | (simp; omega) | simp)
  have B44_ := B38_.alloc (by first | omega | (simp; omega) | simp) (.cells #[.int .i64 E, .slice A30_ xs.length c31_] 25)
  have a45_ : (w29.alloc (.cells #[.int .i64 E, .slice A30_ xs.length c31_] 25)).cell? ⟨w29.heap.size, 0, none⟩ = some (.int .i64 E) := by simp [go_sem]
  have a46_ : (w29.alloc (.cells #[.int .i64 E, .slice A30_ xs.length c31_] 25)).cell? ⟨w29.heap.size, 1, none⟩ = some (.slice A30_ xs.length c31_) := by simp [go_sem]
  go_wp2_with fail
  refine (implWorthOf_any E A30_ c31_ xs s _ _ _ o41_.ints (by first | omega | (simp; omega) | simp) (by omega)).mono ?_
  rintro e w47 ⟨he, hb47_⟩
  rw [Hv22_.out] at he
  subst he
  have o48_ := o39_.below hb47_ (by first | omega | (simp; omega) | simp)
  have o49_ := o40_.below hb47_ (by first | omega | (simp; omega) | simp)
  have o50_ := o41_.below hb47_ (by first | omega | (simp; omega) | simp)
  have o51_ := (hb47_.cell (p := ⟨w.heap.size, 0, none⟩) (by first | omega | (simp; omega) | simp)).trans o42_
  have o52_ := (hb47_.cell (p := ⟨w.heap.size, 1, none⟩) (by first | omega | (simp; omega) | simp)).trans o43_
  have o53_ := (hb47_.cell (p := ⟨w29.heap.size, 0, none⟩) (by first | omega | (simp; omega) | simp)).trans a45_
  have o54_ := (hb47_.cell (p := ⟨w29.heap.size, 1, none⟩) (by first | omega | (simp; omega) | simp)).trans a46_
  have z55_ := hb47_.size
  try simp at z55_
  have B56_ := B44_.trans (hb47_.mono (by first | omega | (simp; omega) | simp))
  clear hb47_
  have g67_ : w.heap.size < w47.heap.size := (by first | omega | (simp; omega) | simp)
  have g68_ : w29.heap.size < w47.heap.size := (by first | omega | (simp; omega) | simp)
  have g69_ : w.heap.size ≤ w47.heap.size := (by first | omega | (simp; omega) | simp)
  have g70_ : w12.heap.size ≤ w47.heap.size := (by first | omega | (simp; omega) | simp)
  have g71_ : w29.heap.size ≤ w47.heap.size := (by first | omega | (simp; omega) | simp)
  have g72_ : w.heap.size ≤ w47.heap.size := (by first | omega | (simp; omega) | simp)
  go_wp2_with fail
  refine wp_region_held_drew (S := (fun w' : World => Below w.heap.size w w' ∧ w47.heap.size ≤ w'.heap.size ∧ Ints w' (0) (w.heap.size) A xs ∧ Own w' (w5.heap.size) (w12.heap.size) A13_ xs ∧ Own w' (w21.heap.size) (w29.heap.size) A30_ xs ∧ w'.cell? ⟨w.heap.size, 0, none⟩ = some (.int .i64 E) ∧ w'.cell? ⟨w.heap.size, 1, none⟩ = some (.slice A xs.length c) ∧ w'.cell? ⟨w29.heap.size, 0, none⟩ = some (.int .i64 E) ∧ w'.cell? ⟨w29.heap.size, 1, none⟩ = some (.slice A30_ xs.length c31_) ∧ w47.heap.size ≤ w'.heap.size)) (by kernel_rfl) ⟨B56_.drew, by exact (by first | omega | (simp; omega) | simp), o48_, o49_, o50_, o51_, o52_, o53_, o54_, Nat.le_refl _⟩ (fun hHeld => ?_)
  refine wpAnyH_take (i := 0) (oi := ?oi1) (v := ?vv1) ?hi1 ?hs1 ?hf1 ?ha1 ?hq1 ?hy1 hHeld ?hr1
  case hi1 => (simp only [List.getElem?_toArray, List.getElem?_cons_zero]; exact rfl)
  case hs1 => kernel_rfl
  case hf1 => kernel_rfl
  case ha1 => kernel_rfl
  case hq1 => exact fun _ _ _ h => h
  case hy1 =>
    refine Or.inl ⟨by rfl, ?_⟩
    intro w' hSw
    try dsimp only at hSw
    go_simp
    first | done | with_reducible rfl
  simp only [Act.put, List.setIfInBounds_toArray, List.set_cons_succ, List.set_cons_zero]
  refine wpAnyH_take (i := 1) (oi := ?oi2) (v := ?vv2) ?hi2 ?hs2 ?hf2 ?ha2 ?hq2 ?hy2 hHeld ?hr2
  case hi2 => (simp only [List.getElem?_toArray, List.getElem?_cons_succ, List.getElem?_cons_zero]; exact rfl)
  case hs2 => kernel_rfl
  case hf2 => kernel_rfl
  case ha2 => kernel_rfl
  case hq2 => exact fun _ _ _ h => h
  case hy2 =>
    refine Or.inl ⟨by rfl, ?_⟩
    intro w' hSw
    try dsimp only at hSw
    go_simp
    first | done | with_reducible rfl
  simp only [Act.put, List.setIfInBounds_toArray, List.set_cons_succ, List.set_cons_zero]
  refine wpAnyH_ready (rs := [2]) (by kernel_rfl) (by simp) ?_
  refine AllReadyH.cons rfl (fun K hK => ?_) AllReadyH.nil
  go_simp
  go_at_call 40
  obtain ⟨BB, zz, k60_, k61_, k62_, k63_, k64_, k65_, k66_, zw⟩ := hHeld
  (with_reducible refine (toCase_any E A c xs _ _ _ k60_ (by first | omega | (simp; omega) | simp) (by omega)).mono ?_)
  rintro e w73 ⟨A57_, c58_, rfl, ho59_, hb9⟩
  have ho59_ := ho59_.more (lo' := w47.heap.size) (by omega) (Nat.le_refl _)
  refine hK.out _ _ ⟨BB.trans (hb9.mono (by omega)), Nat.le_trans zz hb9.size, k60_.below hb9 (by first | omega | (simp; omega) | simp), k61_.below hb9 (by first | omega | (simp; omega) | simp), k62_.below hb9 (by first | omega | (simp; omega) | simp), (hb9.cell (p := ⟨w.heap.size, 0, none⟩) (by first | omega | (simp; omega) | simp)).trans k63_, (hb9.cell (p := ⟨w.heap.size, 1, none⟩) (by first | omega | (simp; omega) | simp)).trans k64_, (hb9.cell (p := ⟨w29.heap.size, 0, none⟩) (by first | omega | (simp; omega) | simp)).trans k65_, (hb9.cell (p := ⟨w29.heap.size, 1, none⟩) (by first | omega | (simp; omega) | simp)).trans k66_, Nat.le_trans zw hb9.size⟩ (fun hHeld => ?_)
  clear hb9 zw k66_ k65_ k64_ k63_ k62_ k61_ k60_ zz BB
  clear hK K
  try simp only [Act.put, List.setIfInBounds_toArray, List.set_cons_zero, List.set_cons_succ]
  refine wpAnyH_ready (rs := [3]) (by kernel_rfl) (by simp) ?_
  refine AllReadyH.cons rfl (fun K hK => ?_) AllReadyH.nil
  go_simp
  go_at_call 41
  obtain ⟨BB, zz, k60_, k61_, k62_, k63_, k64_, k65_, k66_, zw⟩ := hHeld
  (with_reducible refine (eqCase_yes E A30_ A57_ c31_ c58_ xs _ _ _ _ _ k62_.ints ho59_.ints (by first | omega | (simp; omega) | simp) (by first | omega | (simp; omega) | simp) (by omega)).mono ?_)
  rintro e w74 ⟨rfl, hb9⟩
  have ho59_ := ho59_.below hb9 (Nat.le_refl _)
  have ho59_ := ho59_.more (Nat.le_refl _) hb9.size
  refine hK.out _ _ ⟨BB.trans (hb9.mono (by omega)), Nat.le_trans zz hb9.size, k60_.below hb9 (by first | omega | (simp; omega) | simp), k61_.below hb9 (by first | omega | (simp; omega) | simp), k62_.below hb9 (by first | omega | (simp; omega) | simp), (hb9.cell (p := ⟨w.heap.size, 0, none⟩) (by first | omega | (simp; omega) | simp)).trans k63_, (hb9.cell (p := ⟨w.heap.size, 1, none⟩) (by first | omega | (simp; omega) | simp)).trans k64_, (hb9.cell (p := ⟨w29.heap.size, 0, none⟩) (by first | omega | (simp; omega) | simp)).trans k65_, (hb9.cell (p := ⟨w29.heap.size, 1, none⟩) (by first | omega | (simp; omega) | simp)).trans k66_, Nat.le_trans zw hb9.size⟩ (fun hHeld => ?_)
  clear hb9 zw k66_ k65_ k64_ k63_ k62_ k61_ k60_ zz BB
  clear hK K
  try simp only [Act.put, List.setIfInBounds_toArray, List.set_cons_zero, List.set_cons_succ]
  refine wpAnyH_take (i := 4) (oi := ?oi3) (v := ?vv3) ?hi3 ?hs3 ?hf3 ?ha3 ?hq3 ?hy3 hHeld ?hr3
  case hi3 => (simp only [List.getElem?_toArray, List.getElem?_cons_succ, List.getElem?_cons_zero]; exact rfl)
  case hs3 => kernel_rfl
  case hf3 => kernel_rfl
  case ha3 => kernel_rfl
  case hq3 => exact fun _ _ _ h => h
  case hy3 =>
    refine Or.inl ⟨by rfl, ?_⟩
    intro w' hSw
    try dsimp only at hSw
    go_simp
    first | done | with_reducible rfl
  simp only [Act.put, List.setIfInBounds_toArray, List.set_cons_succ, List.set_cons_zero]
  refine wpAnyH_done (by kernel_rfl) ?_ _
  obtain ⟨BB, zz, k60_, k61_, k62_, k63_, k64_, k65_, k66_, zw⟩ := hHeld
  have k75_ := BB
  clear BB
  have k76_ := zz
  clear zz
  have k77_ := zw
  clear zw
  go_wp2
  go_ret
  exact ⟨ret_bool (by first | exact rfl | exact (decide_eq_false (by omega)).trans rfl), k75_⟩

set_option maxRecDepth 10000 in
set_option maxHeartbeats 400000 in
theorem exWorthOf_big0 (E : Int) (A : Option Addr) (c : Nat) (xs : List Int) (s : Int) (w : World)  (hl : ¬ xs.length ≤ 1048576) (hm : xs.length ≤ 9223372036854775807) :
    Calls Try.prog 9 #[.agg #[.int .i64 E, .slice A xs.length c], .int .i64 s] w fun e w' => e = .returned (.bool true) ∧ Below w.heap.size w w' := by
  have B0 := (Below.refl w.heap.size w).alloc (Nat.le_refl _) (.cells #[.int .i64 E, .slice A xs.length c] 45)
  go_enter Try.func9, Try.ntmps9
  go_wp2_with fail
  refine (szCase_no E A c xs.length 1048576 _ (by omega) (by omega) hm).mono ?_
  rintro e w1 ⟨rfl, hb1⟩
  go_wp2
  go_ret
  exact ⟨rfl, B0.trans (hb1.mono (by simp))⟩

theorem exWorthOf_all (E : Int) (A : Option Addr) (c : Nat) (xs : List Int) (s : Int) (w : World) (h : Ints w 0 w.heap.size A xs) (hm : xs.length ≤ 9223372036854775807) :
    Calls Try.prog 9 #[.agg #[.int .i64 E, .slice A xs.length c], .int .i64 s] w fun e w' => e = .returned (.bool true) ∧ Below w.heap.size w w' := by
  by_cases hl : xs.length ≤ 1048576
  · exact exWorthOf_walk E A c xs s w h hl
  · exact exWorthOf_big0 E A c xs s w  hl hm

end Go.Proofs.Ythhcjomfpjopdaa
