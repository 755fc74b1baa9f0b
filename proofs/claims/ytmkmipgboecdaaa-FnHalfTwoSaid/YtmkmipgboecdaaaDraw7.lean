/-
  The cases that are drawn for chapter 7, with orders, and with people and sets: small, in new memory. No condition.
-/
import Derived.Test.YtmkmipgboecdaaaDrawW
import Derived.Test.YtmkmipgboecdaaaDrawN
import Derived.Test.YtmkmipgboecdaaaGame
namespace Go.Proofs.Ytmkmipgboecdaaa
open Go.RowKit

def DrawnBrings (w : World) (e : Ending) (w' : World) : Prop :=
  ∃ E A c, ∃ xs : List Int, ∃ p s : Int, xs.length ≤ 5 ∧ (0 ≤ p ∧ p ≤ 9) ∧ (0 ≤ s ∧ s ≤ 63) ∧ e = .returned (.tuple #[.agg #[.int .i64 E, .slice A xs.length c], .int .i64 p, .int .i64 s]) ∧ Own w' w.heap.size w'.heap.size A xs ∧ Below w.heap.size w w'
theorem andNot_fin : ∀ a b : Fin 64, 0 ≤ bits .andNot .i64 (a.val : Int) (b.val : Int) ∧ bits .andNot .i64 (a.val : Int) (b.val : Int) ≤ a.val := by decide +kernel
theorem andNot_bd {a b : Int} (ha : 0 ≤ a ∧ a ≤ 63) (hb : 0 ≤ b ∧ b ≤ 63) : 0 ≤ bits .andNot .i64 a b ∧ bits .andNot .i64 a b ≤ a := by
  obtain ⟨x, rfl⟩ := Int.eq_ofNat_of_zero_le ha.1
  obtain ⟨y, rfl⟩ := Int.eq_ofNat_of_zero_le hb.1
  exact andNot_fin ⟨x, by omega⟩ ⟨y, by omega⟩
theorem or_fin : ∀ a b : Fin 64, 0 ≤ bits .or .i64 (a.val : Int) (b.val : Int) ∧ bits .or .i64 (a.val : Int) (b.val : Int) ≤ 63 := by decide +kernel
theorem or_bd63 {a b : Int} (ha : 0 ≤ a ∧ a ≤ 63) (hb : 0 ≤ b ∧ b ≤ 63) : 0 ≤ bits .or .i64 a b ∧ bits .or .i64 a b ≤ 63 := by
  obtain ⟨x, rfl⟩ := Int.eq_ofNat_of_zero_le ha.1
  obtain ⟨y, rfl⟩ := Int.eq_ofNat_of_zero_le hb.1
  exact or_fin ⟨x, by omega⟩ ⟨y, by omega⟩
theorem shl_one {u P : Int} (hu : 0 ≤ u ∧ u ≤ 1) (hP : 1 ≤ P ∧ P ≤ 32) : 0 ≤ u * P ∧ u * P ≤ 32 := by
  rcases (show u = 0 ∨ u = 1 from by omega) with rfl | rfl <;> omega

set_option maxRecDepth 10000 in
set_option maxHeartbeats 2000000 in
theorem drawBringsOf_any (A : Option Addr) (c : Nat) (bs : List Int) (w : World) (h : Bytes w w.heap.size A bs) (hl : bs.length ≤ 9223372036854775807) (hc : bs.length ≤ c) :
    Calls Try.prog 29 #[.slice A bs.length c] w (DrawnBrings w) := by
  go_enter Try.func29, Try.ntmps29
  have o1_ := h.below ((Below.refl _ _).alloc (Nat.le_refl _) (.cells #[.int .i64 0, .slice none 0 0] 25)) (by first | omega | (simp; omega) | simp)
  have B2_ := (Below.refl w.heap.size w).alloc (Nat.le_refl _) (.cells #[.int .i64 0, .slice none 0 0] 25)
  have a3_ : (w.alloc (.cells #[.int .i64 0, .slice none 0 0] 25)).cell? ⟨w.heap.size, 0, none⟩ = some (.int .i64 0) := by simp [go_sem]
  have a4_ : (w.alloc (.cells #[.int .i64 0, .slice none 0 0] 25)).cell? ⟨w.heap.size, 1, none⟩ = some (.slice none 0 0) := by simp [go_sem]
  have f5_ : (w.alloc (.cells #[.int .i64 0, .slice none 0 0] 25)).frozen? ⟨w.heap.size, 0, none⟩ = false := by simp [go_sem]
  have f6_ : (w.alloc (.cells #[.int .i64 0, .slice none 0 0] 25)).frozen? ⟨w.heap.size, 1, none⟩ = false := by simp [go_sem]
  go_wp2_with fail
  refine (l20Open_any A c bs _ (o1_.more (by first | omega | (simp; omega) | simp)) (by omega) hc).mono ?_
  rintro e w7 ⟨rfl, hb9_, rc7_, rb7_, rl7_, rd8_⟩
  simp only [hsz] at rd8_
  have o10_ := o1_.below hb9_ (by first | omega | (simp; omega) | simp)
  have o11_ := (hb9_.cell (p := ⟨w.heap.size, 0, none⟩) (by first | omega | (simp; omega) | simp)).trans a3_
  have o12_ := (hb9_.cell (p := ⟨w.heap.size, 1, none⟩) (by first | omega | (simp; omega) | simp)).trans a4_
  have o13_ := (hb9_.frozen (p := ⟨w.heap.size, 0, none⟩) (by first | omega | (simp; omega) | simp)).trans f5_
  have o14_ := (hb9_.frozen (p := ⟨w.heap.size, 1, none⟩) (by first | omega | (simp; omega) | simp)).trans f6_
  have z15_ := hb9_.size
  try simp at z15_
  have B16_ := B2_.trans (hb9_.mono (by first | omega | (simp; omega) | simp))
  clear hb9_
  have l17_ := rd8_.lt
  go_wp2_with fail
  refine (l20Case_anyB (w.heap.size + 1) A rc7_ rb7_ _ 12 _ rd8_ (by omega) (by omega) rl7_ (by omega)).mono ?_
  rintro e w18 ⟨E, A22_, c23_, xs, rfl, ho24_, hx5, ⟨rq21_, rq21_h, rd19_⟩, hC20_, hsm⟩
  have o25_ := o10_.chg hC20_ (by first | omega | (simp; omega) | simp) (by omega)
  have o26_ := (hC20_.cell (p := ⟨w.heap.size, 0, none⟩) (by first | omega | (simp; omega) | simp) (by first | omega | (simp; omega))).trans o11_
  have o27_ := (hC20_.cell (p := ⟨w.heap.size, 1, none⟩) (by first | omega | (simp; omega) | simp) (by first | omega | (simp; omega))).trans o12_
  have o28_ := (hC20_.frozen (p := ⟨w.heap.size, 0, none⟩) (by first | omega | (simp; omega) | simp) (by first | omega | (simp; omega))).trans o13_
  have o29_ := (hC20_.frozen (p := ⟨w.heap.size, 1, none⟩) (by first | omega | (simp; omega) | simp) (by first | omega | (simp; omega))).trans o14_
  have z30_ := hC20_.size
  have B31_ := B16_.trans (hC20_.below (by omega) (by first | omega | (simp; omega) | simp))
  clear hC20_
  obtain ⟨hp1, hp2⟩ := pow_set hx5
  have o32_ := o25_.below ((Below.refl _ _).alloc (Nat.le_refl _) (.cells #[.int .i64 E, .slice A22_ xs.length c23_] 25)) (by first | omega | (simp; omega) | simp)
  have o33_ := rd19_.alloc (.cells #[.int .i64 E, .slice A22_ xs.length c23_] 25)
  have o34_ := ho24_.alloc (by first | omega | (simp; omega) | simp) (.cells #[.int .i64 E, .slice A22_ xs.length c23_] 25)
  have o35_ := cell_alloc (o := (.cells #[.int .i64 E, .slice A22_ xs.length c23_] 25)) o26_ (by first | omega | (simp; omega) | simp)
  have o36_ := cell_alloc (o := (.cells #[.int .i64 E, .slice A22_ xs.length c23_] 25)) o27_ (by first | omega | (simp; omega) | simp)
  have o37_ := frozen_alloc (o := (.cells #[.int .i64 E, .slice A22_ xs.length c23_] 25)) o28_ (by first | omega | (simp; omega) | simp)
  have o38_ := frozen_alloc (o := (.cells #[.int .i64 E, .slice A22_ xs.length c23_] 25)) o29_ (by first | omega | (simp; omega) | simp)
  have B39_ := B31_.alloc (by first | omega | (simp; omega) | simp) (.cells #[.int .i64 E, .slice A22_ xs.length c23_] 25)
  have a40_ : (w18.alloc (.cells #[.int .i64 E, .slice A22_ xs.length c23_] 25)).cell? ⟨w18.heap.size, 0, none⟩ = some (.int .i64 E) := by simp [go_sem]
  have a41_ : (w18.alloc (.cells #[.int .i64 E, .slice A22_ xs.length c23_] 25)).cell? ⟨w18.heap.size, 1, none⟩ = some (.slice A22_ xs.length c23_) := by simp [go_sem]
  obtain ⟨m42_, hm42_⟩ : ∃ m : Int, (if 1 > (xs.length : Int) then 1 else (xs.length : Int)) = m := ⟨_, rfl⟩
  have hm42_x : max (xs.length : Int) 1 = m42_ := by rw [← hm42_]; split <;> omega
  have Hm42_ := Lib.hid hm42_x
  have m42_l : m42_ ≥ (xs.length : Int) := by have e := Hm42_.out; omega
  have m42_u : m42_ ≥ 1 := by have e := Hm42_.out; omega
  have m42_o : m42_ = (xs.length : Int) ∨ m42_ = 1 := by have e := Hm42_.out; omega
  go_wp2_with fail
  refine (pick_to (w.heap.size + 1) A rc7_ rb7_ _ m42_ _ o33_ (by omega) (by omega) rl7_ (by omega)).mono ?_
  rintro e w43 ⟨u44_, rfl, u44_l, u44_h, rd45_, hC46_⟩
  have o47_ := o32_.chg hC46_ (by first | omega | (simp; omega) | simp) (by omega)
  have o48_ := o34_.chg hC46_ (by first | omega | (simp; omega) | simp) (by omega)
  have o49_ := (hC46_.cell (p := ⟨w.heap.size, 0, none⟩) (by first | omega | (simp; omega) | simp) (by first | omega | (simp; omega))).trans o35_
  have o50_ := (hC46_.cell (p := ⟨w.heap.size, 1, none⟩) (by first | omega | (simp; omega) | simp) (by first | omega | (simp; omega))).trans o36_
  have o51_ := (hC46_.frozen (p := ⟨w.heap.size, 0, none⟩) (by first | omega | (simp; omega) | simp) (by first | omega | (simp; omega))).trans o37_
  have o52_ := (hC46_.frozen (p := ⟨w.heap.size, 1, none⟩) (by first | omega | (simp; omega) | simp) (by first | omega | (simp; omega))).trans o38_
  have o53_ := (hC46_.cell (p := ⟨w18.heap.size, 0, none⟩) (by first | omega | (simp; omega) | simp) (by first | omega | (simp; omega))).trans a40_
  have o54_ := (hC46_.cell (p := ⟨w18.heap.size, 1, none⟩) (by first | omega | (simp; omega) | simp) (by first | omega | (simp; omega))).trans a41_
  have z55_ := hC46_.size
  try simp at z55_
  have B56_ := B39_.trans (hC46_.below (by omega) (by first | omega | (simp; omega) | simp))
  clear hC46_
  obtain ⟨p, rfl⟩ : ∃ p : Nat, u44_ = (p : Int) := ⟨u44_.toNat, by omega⟩
  obtain ⟨hq1, hq2⟩ := pow_set (n := p) (by omega)
  have g79_ : w.heap.size < w43.heap.size := (by first | omega | (simp; omega) | simp)
  have g80_ : w18.heap.size < w43.heap.size := (by first | omega | (simp; omega) | simp)
  have g81_ : w.heap.size ≤ w43.heap.size := (by first | omega | (simp; omega) | simp)
  have g82_ : (w.heap.size + 1) < w43.heap.size := (by have e := rd45_.lt; exact e)
  have g83_ : w18.heap.size ≤ w43.heap.size := (by first | omega | (simp; omega) | simp)
  have g84_ : w.heap.size ≤ w43.heap.size := (by first | omega | (simp; omega) | simp)
  go_wp2_with fail
  refine wp_region_held_drew (S := (fun w' : World => Below w.heap.size w w' ∧ w43.heap.size ≤ w'.heap.size ∧ Bytes w' (w.heap.size) A bs ∧ Own w' (w7.heap.size) (w18.heap.size) A22_ xs ∧ w'.cell? ⟨w18.heap.size, 0, none⟩ = some (.int .i64 E) ∧ w'.cell? ⟨w18.heap.size, 1, none⟩ = some (.slice A22_ xs.length c23_) ∧ w43.heap.size ≤ w'.heap.size)) (by kernel_rfl) ⟨B56_.drew, by exact (by first | omega | (simp; omega) | simp), o47_, o48_, o53_, o54_, Nat.le_refl _⟩ (fun hHeld => ?_)
  have o85_ : w43.drew.cell? ⟨w.heap.size, 0, none⟩ = some (.int .i64 0) := o49_
  have o86_ : w43.drew.cell? ⟨w.heap.size, 1, none⟩ = some (.slice none 0 0) := o50_
  have o87_ : w43.drew.frozen? ⟨w.heap.size, 0, none⟩ = false := o51_
  have o88_ : w43.drew.frozen? ⟨w.heap.size, 1, none⟩ = false := o52_
  have o89_ : Rd w43.drew (w.heap.size + 1) A rc7_ rb7_ (rq21_ + 1) := rd45_.drew
  refine wpAnyH_take (i := 0) (oi := ?oi1) (v := ?vv1) ?hi1 ?hs1 ?hf1 ?ha1 ?hq1 ?hy1 hHeld ?hr1
  case hi1 => (simp only [List.getElem?_toArray, List.getElem?_cons_zero]; exact rfl)
  case hs1 => kernel_rfl
  case hf1 => kernel_rfl
  case ha1 => kernel_rfl
  case hq1 => exact fun _ _ _ h => h
  case hy1 =>
    refine Or.inl ⟨by rfl, ?_⟩
    intro w' hSw
    try dsimp only at hSw
    go_simp
    first | done | with_reducible rfl
  simp only [Act.put, List.setIfInBounds_toArray, List.set_cons_succ, List.set_cons_zero]
  refine wpAnyH_take (i := 1) (oi := ?oi2) (v := ?vv2) ?hi2 ?hs2 ?hf2 ?ha2 ?hq2 ?hy2 hHeld ?hr2
  case hi2 => (simp only [List.getElem?_toArray, List.getElem?_cons_succ, List.getElem?_cons_zero]; exact rfl)
  case hs2 => kernel_rfl
  case hf2 => kernel_rfl
  case ha2 => kernel_rfl
  case hq2 => exact fun _ _ _ h => h
  case hy2 =>
    refine Or.inl ⟨by rfl, ?_⟩
    intro w' hSw
    try dsimp only at hSw
    go_simp
    first | done | with_reducible rfl
  simp only [Act.put, List.setIfInBounds_toArray, List.set_cons_succ, List.set_cons_zero]
  refine wpAnyH_take (i := 2) (oi := ?oi3) (v := ?vv3) ?hi3 ?hs3 ?hf3 ?ha3 ?hq3 ?hy3 hHeld ?hr3
  case hi3 => (simp only [List.getElem?_toArray, List.getElem?_cons_succ, List.getElem?_cons_zero]; exact rfl)
  case hs3 => kernel_rfl
  case hf3 => kernel_rfl
  case ha3 => kernel_rfl
  case hq3 => exact fun _ _ _ h => h
  case hy3 =>
    refine Or.inl ⟨by rfl, ?_⟩
    intro w' hSw
    try dsimp only at hSw
    go_simp
    first | done | with_reducible rfl
  simp only [Act.put, List.setIfInBounds_toArray, List.set_cons_succ, List.set_cons_zero]
  refine wpAnyH_take (i := 7) (oi := ?oi4) (v := ?vv4) ?hi4 ?hs4 ?hf4 ?ha4 ?hq4 ?hy4 hHeld ?hr4
  case hi4 => (simp only [List.getElem?_toArray, List.getElem?_cons_succ, List.getElem?_cons_zero]; exact rfl)
  case hs4 => kernel_rfl
  case hf4 => kernel_rfl
  case ha4 => kernel_rfl
  case hq4 => exact fun _ _ _ h => h
  case hy4 =>
    refine Or.inl ⟨by rfl, ?_⟩
    intro w' hSw
    try dsimp only at hSw
    go_simp
    first | done | with_reducible rfl
  simp only [Act.put, List.setIfInBounds_toArray, List.set_cons_succ, List.set_cons_zero]
  refine wpAnyH_take (i := 8) (oi := ?oi5) (v := ?vv5) ?hi5 ?hs5 ?hf5 ?ha5 ?hq5 ?hy5 hHeld ?hr5
  case hi5 => (simp only [List.getElem?_toArray, List.getElem?_cons_succ, List.getElem?_cons_zero]; exact rfl)
  case hs5 => kernel_rfl
  case hf5 => kernel_rfl
  case ha5 => kernel_rfl
  case hq5 => exact fun _ _ _ h => h
  case hy5 =>
    refine Or.inl ⟨by rfl, ?_⟩
    intro w' hSw
    try dsimp only at hSw
    go_simp
    first | done | with_reducible rfl
  simp only [Act.put, List.setIfInBounds_toArray, List.set_cons_succ, List.set_cons_zero]
  refine wpAnyH_take (i := 9) (oi := ?oi6) (v := ?vv6) ?hi6 ?hs6 ?hf6 ?ha6 ?hq6 ?hy6 hHeld ?hr6
  case hi6 => (simp only [List.getElem?_toArray, List.getElem?_cons_succ, List.getElem?_cons_zero]; exact rfl)
  case hs6 => kernel_rfl
  case hf6 => kernel_rfl
  case ha6 => kernel_rfl
  case hq6 => exact fun _ _ _ h => h
  case hy6 =>
    refine Or.inl ⟨by rfl, ?_⟩
    intro w' hSw
    try dsimp only at hSw
    go_simp
    first | done | with_reducible rfl
  simp only [Act.put, List.setIfInBounds_toArray, List.set_cons_succ, List.set_cons_zero]
  refine wpAnyH_take (i := 10) (oi := ?oi7) (v := ?vv7) ?hi7 ?hs7 ?hf7 ?ha7 ?hq7 ?hy7 hHeld ?hr7
  case hi7 => (simp only [List.getElem?_toArray, List.getElem?_cons_succ, List.getElem?_cons_zero]; exact rfl)
  case hs7 => kernel_rfl
  case hf7 => kernel_rfl
  case ha7 => kernel_rfl
  case hq7 => exact fun _ _ _ h => h
  case hy7 =>
    refine Or.inl ⟨by rfl, ?_⟩
    intro w' hSw
    try dsimp only at hSw
    go_simp
    first | done | with_reducible rfl
  simp only [Act.put, List.setIfInBounds_toArray, List.set_cons_succ, List.set_cons_zero]
  have hw63_ : IntKind.i64.wrap (2 ^ xs.length) = (2 ^ xs.length) := IntWalk.i64_in _ (by omega)
  refine wpAnyH_take (i := 11) (oi := ?oi8) (v := ?vv8) ?hi8 ?hs8 ?hf8 ?ha8 ?hq8 ?hy8 hHeld ?hr8
  case hi8 => (simp only [List.getElem?_toArray, List.getElem?_cons_succ, List.getElem?_cons_zero]; exact rfl)
  case hs8 => kernel_rfl
  case hf8 => kernel_rfl
  case ha8 => kernel_rfl
  case hq8 => exact fun _ _ _ h => h
  case hy8 =>
    refine Or.inl ⟨by rfl, ?_⟩
    intro w' hSw
    try dsimp only at hSw
    go_simp
    first | done | with_reducible rfl
  simp only [Act.put, List.setIfInBounds_toArray, List.set_cons_succ, List.set_cons_zero]
  refine wpAnyH_take (i := 13) (oi := ?oi9) (v := ?vv9) ?hi9 ?hs9 ?hf9 ?ha9 ?hq9 ?hy9 hHeld ?hr9
  case hi9 => (simp only [List.getElem?_toArray, List.getElem?_cons_succ, List.getElem?_cons_zero]; exact rfl)
  case hs9 => kernel_rfl
  case hf9 => kernel_rfl
  case ha9 => kernel_rfl
  case hq9 => exact fun _ _ _ h => h
  case hy9 =>
    refine Or.inl ⟨by rfl, ?_⟩
    intro w' hSw
    try dsimp only at hSw
    go_simp
    first | done | with_reducible rfl
  simp only [Act.put, List.setIfInBounds_toArray, List.set_cons_succ, List.set_cons_zero]
  have hw67_ : IntKind.i64.wrap (2 ^ p) = (2 ^ p) := IntWalk.i64_in _ (by omega)
  refine wpAnyH_take (i := 14) (oi := ?oi10) (v := ?vv10) ?hi10 ?hs10 ?hf10 ?ha10 ?hq10 ?hy10 hHeld ?hr10
  case hi10 => (simp only [List.getElem?_toArray, List.getElem?_cons_succ, List.getElem?_cons_zero]; exact rfl)
  case hs10 => kernel_rfl
  case hf10 => kernel_rfl
  case ha10 => kernel_rfl
  case hq10 => exact fun _ _ _ h => h
  case hy10 =>
    refine Or.inl ⟨by rfl, ?_⟩
    intro w' hSw
    try dsimp only at hSw
    go_simp
    first | done | with_reducible rfl
  simp only [Act.put, List.setIfInBounds_toArray, List.set_cons_succ, List.set_cons_zero]
  refine wpAnyH_take (i := 16) (oi := ?oi11) (v := ?vv11) ?hi11 ?hs11 ?hf11 ?ha11 ?hq11 ?hy11 hHeld ?hr11
  case hi11 => (simp only [List.getElem?_toArray, List.getElem?_cons_succ, List.getElem?_cons_zero]; exact rfl)
  case hs11 => kernel_rfl
  case hf11 => kernel_rfl
  case ha11 => kernel_rfl
  case hq11 => exact fun _ _ _ h => h
  case hy11 =>
    refine Or.inl ⟨by rfl, ?_⟩
    intro w' hSw
    try dsimp only at hSw
    go_simp
    first | done | with_reducible rfl
  simp only [Act.put, List.setIfInBounds_toArray, List.set_cons_succ, List.set_cons_zero]
  refine wpAnyH_take (i := 19) (oi := ?oi12) (v := ?vv12) ?hi12 ?hs12 ?hf12 ?ha12 ?hq12 ?hy12 hHeld ?hr12
  case hi12 => (simp only [List.getElem?_toArray, List.getElem?_cons_succ, List.getElem?_cons_zero]; exact rfl)
  case hs12 => kernel_rfl
  case hf12 => kernel_rfl
  case ha12 => kernel_rfl
  case hq12 => exact fun _ _ _ h => h
  case hy12 =>
    refine Or.inl ⟨by rfl, ?_⟩
    intro w' hSw
    try dsimp only at hSw
    go_simp
    first | done | with_reducible rfl
  simp only [Act.put, List.setIfInBounds_toArray, List.set_cons_succ, List.set_cons_zero]
  refine wpAnyH_ready (rs := [3]) (by kernel_rfl) (by simp) ?_
  refine AllReadyH.cons rfl (fun K hK => ?_) AllReadyH.nil
  go_simp
  go_at_call 71
  obtain ⟨BB, zz, k75_, k76_, k77_, k78_, zw⟩ := hHeld
  (with_reducible refine (pick_to (w.heap.size + 1) A rc7_ rb7_ _ 40 _ o89_ (by omega) (by omega) rl7_ (by omega)).mono ?_)
  rintro e w90 ⟨u57_, rfl, u57_l, u57_h, rd58_, hC59_⟩
  have o91_ := (hC59_.cell (p := ⟨w.heap.size, 0, none⟩) (by first | omega | (simp; omega) | simp) (by first | omega | (simp; omega))).trans o85_
  have o92_ := (hC59_.cell (p := ⟨w.heap.size, 1, none⟩) (by first | omega | (simp; omega) | simp) (by first | omega | (simp; omega))).trans o86_
  have o93_ := (hC59_.frozen (p := ⟨w.heap.size, 0, none⟩) (by first | omega | (simp; omega) | simp) (by first | omega | (simp; omega))).trans o87_
  have o94_ := (hC59_.frozen (p := ⟨w.heap.size, 1, none⟩) (by first | omega | (simp; omega) | simp) (by first | omega | (simp; omega))).trans o88_
  refine hK.out _ _ ⟨BB.trans (hC59_.below (by omega) (by omega)), Nat.le_trans zz hC59_.size, k75_.chg hC59_ (by first | omega | (simp; omega) | simp) (by omega), k76_.chg hC59_ (by first | omega | (simp; omega) | simp) (by omega), (hC59_.cell (p := ⟨w18.heap.size, 0, none⟩) (by first | omega | (simp; omega) | simp) (by first | omega | (simp; omega))).trans k77_, (hC59_.cell (p := ⟨w18.heap.size, 1, none⟩) (by first | omega | (simp; omega) | simp) (by first | omega | (simp; omega))).trans k78_, Nat.le_trans zw hC59_.size⟩ (fun hHeld => ?_)
  clear hC59_ zw k78_ k77_ k76_ k75_ zz BB
  clear hK K
  try simp only [Act.put, List.setIfInBounds_toArray, List.set_cons_zero, List.set_cons_succ]
  have hq60_ : IntKind.i64.wrap (u57_.tdiv 39) = u57_ / 39 := by rw [Int.tdiv_eq_ediv_of_nonneg (by omega)]; exact IntWalk.i64_in _ (by omega)
  refine wpAnyH_take (i := 4) (oi := ?oi13) (v := ?vv13) ?hi13 ?hs13 ?hf13 ?ha13 ?hq13 ?hy13 hHeld ?hr13
  case hi13 => (simp only [List.getElem?_toArray, List.getElem?_cons_succ, List.getElem?_cons_zero]; exact rfl)
  case hs13 => kernel_rfl
  case hf13 => kernel_rfl
  case ha13 => kernel_rfl
  case hq13 => exact fun _ _ _ h => h
  case hy13 =>
    refine Or.inl ⟨by rfl, ?_⟩
    intro w' hSw
    try dsimp only at hSw
    go_simp
    first | done | with_reducible rfl
  simp only [Act.put, List.setIfInBounds_toArray, List.set_cons_succ, List.set_cons_zero]
  have hw61_ : IntKind.i64.wrap ((u57_ / 39) * 4) = ((u57_ / 39) * 4) := IntWalk.i64_in _ (by omega)
  refine wpAnyH_take (i := 5) (oi := ?oi14) (v := ?vv14) ?hi14 ?hs14 ?hf14 ?ha14 ?hq14 ?hy14 hHeld ?hr14
  case hi14 => (simp only [List.getElem?_toArray, List.getElem?_cons_succ, List.getElem?_cons_zero]; exact rfl)
  case hs14 => kernel_rfl
  case hf14 => kernel_rfl
  case ha14 => kernel_rfl
  case hq14 => exact fun _ _ _ h => h
  case hy14 =>
    refine Or.inl ⟨by rfl, ?_⟩
    intro w' hSw
    try dsimp only at hSw
    go_simp
    first | done | with_reducible rfl
  simp only [Act.put, List.setIfInBounds_toArray, List.set_cons_succ, List.set_cons_zero]
  have hw62_ : IntKind.i64.wrap ((p : Int) + ((u57_ / 39) * 4)) = ((p : Int) + ((u57_ / 39) * 4)) := IntWalk.i64_in _ (by omega)
  refine wpAnyH_take (i := 6) (oi := ?oi15) (v := ?vv15) ?hi15 ?hs15 ?hf15 ?ha15 ?hq15 ?hy15 hHeld ?hr15
  case hi15 => (simp only [List.getElem?_toArray, List.getElem?_cons_succ, List.getElem?_cons_zero]; exact rfl)
  case hs15 => kernel_rfl
  case hf15 => kernel_rfl
  case ha15 => kernel_rfl
  case hq15 => exact fun _ _ _ h => h
  case hy15 =>
    refine Or.inl ⟨by rfl, ?_⟩
    intro w' hSw
    try dsimp only at hSw
    go_simp
    first | done | with_reducible rfl
  simp only [Act.put, List.setIfInBounds_toArray, List.set_cons_succ, List.set_cons_zero]
  refine wpAnyH_ready (rs := [12]) (by kernel_rfl) (by simp) ?_
  refine AllReadyH.cons rfl (fun K hK => ?_) AllReadyH.nil
  go_simp
  go_at_call 71
  obtain ⟨BB, zz, k75_, k76_, k77_, k78_, zw⟩ := hHeld
  (with_reducible refine (pick_to (w.heap.size + 1) A rc7_ rb7_ _ (2 ^ xs.length) _ rd58_ (by omega) (by omega) rl7_ (by omega)).mono ?_)
  rintro e w95 ⟨u64_, rfl, u64_l, u64_h, rd65_, hC66_⟩
  have o96_ := (hC66_.cell (p := ⟨w.heap.size, 0, none⟩) (by first | omega | (simp; omega) | simp) (by first | omega | (simp; omega))).trans o91_
  have o97_ := (hC66_.cell (p := ⟨w.heap.size, 1, none⟩) (by first | omega | (simp; omega) | simp) (by first | omega | (simp; omega))).trans o92_
  have o98_ := (hC66_.frozen (p := ⟨w.heap.size, 0, none⟩) (by first | omega | (simp; omega) | simp) (by first | omega | (simp; omega))).trans o93_
  have o99_ := (hC66_.frozen (p := ⟨w.heap.size, 1, none⟩) (by first | omega | (simp; omega) | simp) (by first | omega | (simp; omega))).trans o94_
  refine hK.out _ _ ⟨BB.trans (hC66_.below (by omega) (by omega)), Nat.le_trans zz hC66_.size, k75_.chg hC66_ (by first | omega | (simp; omega) | simp) (by omega), k76_.chg hC66_ (by first | omega | (simp; omega) | simp) (by omega), (hC66_.cell (p := ⟨w18.heap.size, 0, none⟩) (by first | omega | (simp; omega) | simp) (by first | omega | (simp; omega))).trans k77_, (hC66_.cell (p := ⟨w18.heap.size, 1, none⟩) (by first | omega | (simp; omega) | simp) (by first | omega | (simp; omega))).trans k78_, Nat.le_trans zw hC66_.size⟩ (fun hHeld => ?_)
  clear hC66_ zw k78_ k77_ k76_ k75_ zz BB
  clear hK K
  try simp only [Act.put, List.setIfInBounds_toArray, List.set_cons_zero, List.set_cons_succ]
  obtain ⟨B68_, hB68_⟩ : ∃ B, bits .andNot .i64 u64_ (2 ^ p) = B := ⟨_, rfl⟩
  have bB68_ := andNot_bd (a := u64_) (b := (2 ^ p)) (by omega) (by omega)
  rw [hB68_] at bB68_
  obtain ⟨bB68_1, bB68_2⟩ := bB68_
  refine wpAnyH_take (i := 15) (oi := ?oi16) (v := ?vv16) ?hi16 ?hs16 ?hf16 ?ha16 ?hq16 ?hy16 hHeld ?hr16
  case hi16 => (simp only [List.getElem?_toArray, List.getElem?_cons_succ, List.getElem?_cons_zero]; exact rfl)
  case hs16 => kernel_rfl
  case hf16 => kernel_rfl
  case ha16 => kernel_rfl
  case hq16 => exact fun _ _ _ h => h
  case hy16 =>
    refine Or.inl ⟨by rfl, ?_⟩
    intro w' hSw
    try dsimp only at hSw
    go_simp
    first | done | with_reducible rfl
  simp only [Act.put, List.setIfInBounds_toArray, List.set_cons_succ, List.set_cons_zero]
  refine wpAnyH_ready (rs := [17]) (by kernel_rfl) (by simp) ?_
  refine AllReadyH.cons rfl (fun K hK => ?_) AllReadyH.nil
  go_simp
  go_at_call 71
  obtain ⟨BB, zz, k75_, k76_, k77_, k78_, zw⟩ := hHeld
  (with_reducible refine (pick_to (w.heap.size + 1) A rc7_ rb7_ _ 20 _ rd65_ (by omega) (by omega) rl7_ (by omega)).mono ?_)
  rintro e w100 ⟨u69_, rfl, u69_l, u69_h, rd70_, hC71_⟩
  have hsh := shl_one (u := u69_ / 19) (P := 2 ^ p) (by omega) (by omega)
  obtain ⟨hsh1, hsh2⟩ := hsh
  have o101_ := (hC71_.cell (p := ⟨w.heap.size, 0, none⟩) (by first | omega | (simp; omega) | simp) (by first | omega | (simp; omega))).trans o96_
  have o102_ := (hC71_.cell (p := ⟨w.heap.size, 1, none⟩) (by first | omega | (simp; omega) | simp) (by first | omega | (simp; omega))).trans o97_
  have o103_ := (hC71_.frozen (p := ⟨w.heap.size, 0, none⟩) (by first | omega | (simp; omega) | simp) (by first | omega | (simp; omega))).trans o98_
  have o104_ := (hC71_.frozen (p := ⟨w.heap.size, 1, none⟩) (by first | omega | (simp; omega) | simp) (by first | omega | (simp; omega))).trans o99_
  refine hK.out _ _ ⟨BB.trans (hC71_.below (by omega) (by omega)), Nat.le_trans zz hC71_.size, k75_.chg hC71_ (by first | omega | (simp; omega) | simp) (by omega), k76_.chg hC71_ (by first | omega | (simp; omega) | simp) (by omega), (hC71_.cell (p := ⟨w18.heap.size, 0, none⟩) (by first | omega | (simp; omega) | simp) (by first | omega | (simp; omega))).trans k77_, (hC71_.cell (p := ⟨w18.heap.size, 1, none⟩) (by first | omega | (simp; omega) | simp) (by first | omega | (simp; omega))).trans k78_, Nat.le_trans zw hC71_.size⟩ (fun hHeld => ?_)
  clear hC71_ zw k78_ k77_ k76_ k75_ zz BB
  clear hK K
  try simp only [Act.put, List.setIfInBounds_toArray, List.set_cons_zero, List.set_cons_succ]
  have hq72_ : IntKind.i64.wrap (u69_.tdiv 19) = u69_ / 19 := by rw [Int.tdiv_eq_ediv_of_nonneg (by omega)]; exact IntWalk.i64_in _ (by omega)
  refine wpAnyH_take (i := 18) (oi := ?oi17) (v := ?vv17) ?hi17 ?hs17 ?hf17 ?ha17 ?hq17 ?hy17 hHeld ?hr17
  case hi17 => (simp only [List.getElem?_toArray, List.getElem?_cons_succ, List.getElem?_cons_zero]; exact rfl)
  case hs17 => kernel_rfl
  case hf17 => kernel_rfl
  case ha17 => kernel_rfl
  case hq17 => exact fun _ _ _ h => h
  case hy17 =>
    refine Or.inl ⟨by rfl, ?_⟩
    intro w' hSw
    try dsimp only at hSw
    go_simp
    first | done | with_reducible rfl
  simp only [Act.put, List.setIfInBounds_toArray, List.set_cons_succ, List.set_cons_zero]
  have hw73_ : IntKind.i64.wrap ((u69_ / 19) * 2 ^ p) = ((u69_ / 19) * 2 ^ p) := IntWalk.i64_in _ (by omega)
  refine wpAnyH_take (i := 20) (oi := ?oi18) (v := ?vv18) ?hi18 ?hs18 ?hf18 ?ha18 ?hq18 ?hy18 hHeld ?hr18
  case hi18 => (simp only [List.getElem?_toArray, List.getElem?_cons_succ, List.getElem?_cons_zero]; exact rfl)
  case hs18 => kernel_rfl
  case hf18 => kernel_rfl
  case ha18 => kernel_rfl
  case hq18 => exact fun _ _ _ h => h
  case hy18 =>
    refine Or.inl ⟨by rfl, ?_⟩
    intro w' hSw
    try dsimp only at hSw
    go_simp
    first | done | with_reducible rfl
  simp only [Act.put, List.setIfInBounds_toArray, List.set_cons_succ, List.set_cons_zero]
  obtain ⟨B74_, hB74_⟩ : ∃ B, bits .or .i64 B68_ ((u69_ / 19) * 2 ^ p) = B := ⟨_, rfl⟩
  have bB74_ := or_bd63 (a := B68_) (b := ((u69_ / 19) * 2 ^ p)) (by omega) (by omega)
  rw [hB74_] at bB74_
  obtain ⟨bB74_1, bB74_2⟩ := bB74_
  refine wpAnyH_take (i := 21) (oi := ?oi19) (v := ?vv19) ?hi19 ?hs19 ?hf19 ?ha19 ?hq19 ?hy19 hHeld ?hr19
  case hi19 => (simp only [List.getElem?_toArray, List.getElem?_cons_succ, List.getElem?_cons_zero]; exact rfl)
  case hs19 => kernel_rfl
  case hf19 => kernel_rfl
  case ha19 => kernel_rfl
  case hq19 => exact fun _ _ _ h => h
  case hy19 =>
    refine Or.inl ⟨by rfl, ?_⟩
    intro w' hSw
    try dsimp only at hSw
    go_simp
    first | done | with_reducible rfl
  simp only [Act.put, List.setIfInBounds_toArray, List.set_cons_succ, List.set_cons_zero]
  refine wpAnyH_ready (rs := [22]) (by kernel_rfl) (by simp) ?_
  refine AllReadyH.cons rfl (fun K hK => ?_) AllReadyH.nil
  obtain ⟨BB, zz, k75_, k76_, k77_, k78_, zw⟩ := hHeld
  go_simp
  have hC105_ := Chg.setCell (lo := w.heap.size) (hi := w.heap.size + 1) w100 (p := ⟨w.heap.size, 0, none⟩) ⟨Nat.le_refl _, Nat.lt_succ_self _⟩ (.int .i64 E)
  have a106_ := cell_set o101_ (.int .i64 E)
  have a107_ := cell_set_off o102_ (i := 0) (by omega) (.int .i64 E)
  have f108_ := frozen_set o103_ ⟨w.heap.size, 0, none⟩ (.int .i64 E)
  have f109_ := frozen_set o104_ ⟨w.heap.size, 0, none⟩ (.int .i64 E)
  obtain ⟨BB, zz, k75_, k76_, k77_, k78_, zw⟩ : (fun w' : World => Below w.heap.size w w' ∧ w43.heap.size ≤ w'.heap.size ∧ Bytes w' (w.heap.size) A bs ∧ Own w' (w7.heap.size) (w18.heap.size) A22_ xs ∧ w'.cell? ⟨w18.heap.size, 0, none⟩ = some (.int .i64 E) ∧ w'.cell? ⟨w18.heap.size, 1, none⟩ = some (.slice A22_ xs.length c23_) ∧ w43.heap.size ≤ w'.heap.size) (w100.setCell ⟨w.heap.size, 0, none⟩ (.int .i64 E)) := ⟨BB.trans (hC105_.below (by omega) (by first | omega | (simp; omega) | simp)), Nat.le_trans zz hC105_.size, k75_.chg hC105_ (by first | omega | (simp; omega) | simp) (by omega), k76_.chg hC105_ (by first | omega | (simp; omega) | simp) (by omega), (hC105_.cell (p := ⟨w18.heap.size, 0, none⟩) (by first | omega | (simp; omega) | simp) (by first | omega | (simp; omega))).trans k77_, (hC105_.cell (p := ⟨w18.heap.size, 1, none⟩) (by first | omega | (simp; omega) | simp) (by first | omega | (simp; omega))).trans k78_, Nat.le_trans zw hC105_.size⟩
  have hC110_ := Chg.setCell (lo := w.heap.size) (hi := w.heap.size + 1) (w100.setCell ⟨w.heap.size, 0, none⟩ (.int .i64 E)) (p := ⟨w.heap.size, 1, none⟩) ⟨Nat.le_refl _, Nat.lt_succ_self _⟩ (.slice A22_ xs.length c23_)
  have a111_ := cell_set_off a106_ (i := 1) (by omega) (.slice A22_ xs.length c23_)
  have a112_ := cell_set a107_ (.slice A22_ xs.length c23_)
  have f113_ := frozen_set f108_ ⟨w.heap.size, 1, none⟩ (.slice A22_ xs.length c23_)
  have f114_ := frozen_set f109_ ⟨w.heap.size, 1, none⟩ (.slice A22_ xs.length c23_)
  refine hK.out _ _ ⟨BB.trans (hC110_.below (by omega) (by first | omega | (simp; omega) | simp)), Nat.le_trans zz hC110_.size, k75_.chg hC110_ (by first | omega | (simp; omega) | simp) (by omega), k76_.chg hC110_ (by first | omega | (simp; omega) | simp) (by omega), (hC110_.cell (p := ⟨w18.heap.size, 0, none⟩) (by first | omega | (simp; omega) | simp) (by first | omega | (simp; omega))).trans k77_, (hC110_.cell (p := ⟨w18.heap.size, 1, none⟩) (by first | omega | (simp; omega) | simp) (by first | omega | (simp; omega))).trans k78_, Nat.le_trans zw hC110_.size⟩ (fun hHeld => ?_)
  clear zw k78_ k77_ k76_ k75_ zz BB
  clear hK K
  try simp only [Act.put, List.setIfInBounds_toArray, List.set_cons_zero, List.set_cons_succ]
  refine wpAnyH_take (i := 23) (oi := ?oi20) (v := ?vv20) ?hi20 ?hs20 ?hf20 ?ha20 ?hq20 ?hy20 hHeld ?hr20
  case hi20 => (simp only [List.getElem?_toArray, List.getElem?_cons_succ, List.getElem?_cons_zero]; exact rfl)
  case hs20 => kernel_rfl
  case hf20 => kernel_rfl
  case ha20 => kernel_rfl
  case hq20 => exact fun _ _ _ h => h
  case hy20 =>
    refine Or.inl ⟨by rfl, ?_⟩
    intro w' hSw
    try dsimp only at hSw
    go_simp
    first | done | with_reducible rfl
  simp only [Act.put, List.setIfInBounds_toArray, List.set_cons_succ, List.set_cons_zero]
  refine wpAnyH_take (i := 24) (oi := ?oi21) (v := ?vv21) ?hi21 ?hs21 ?hf21 ?ha21 ?hq21 ?hy21 hHeld ?hr21
  case hi21 => (simp only [List.getElem?_toArray, List.getElem?_cons_succ, List.getElem?_cons_zero]; exact rfl)
  case hs21 => kernel_rfl
  case hf21 => kernel_rfl
  case ha21 => kernel_rfl
  case hq21 => exact fun _ _ _ h => h
  case hy21 =>
    refine Or.inl ⟨by rfl, ?_⟩
    intro w' hSw
    try dsimp only at hSw
    go_simp
    first | done | with_reducible rfl
  simp only [Act.put, List.setIfInBounds_toArray, List.set_cons_succ, List.set_cons_zero]
  refine wpAnyH_done (by kernel_rfl) ?_ _
  obtain ⟨BB, zz, k75_, k76_, k77_, k78_, zw⟩ := hHeld
  have k115_ := BB
  clear BB
  have k116_ := zz
  clear zz
  have k117_ := zw
  clear zw
  go_wp2
  refine bodyPost_ret (v := .tuple #[.agg #[.int .i64 E, .slice A22_ xs.length c23_], .int .i64 ((p : Int) + ((u57_ / 39) * 4)), .int .i64 B74_]) (by simp [results, Try.results29, go_sem, a111_, a112_]) rfl ?_
  exact ⟨E, A22_, c23_, xs, _, _, hx5, (by omega), (by omega), rfl, k76_.more (by omega) (by omega), k115_⟩

set_option maxRecDepth 10000 in
set_option maxHeartbeats 400000 in
theorem drawArrivalAwards_any (A : Option Addr) (c : Nat) (bs : List Int) (w : World) (h : Bytes w w.heap.size A bs) (hl : bs.length ≤ 9223372036854775807) (hc : bs.length ≤ c) :
    Calls Try.prog 23 #[.slice A bs.length c] w (DrawnCase w) := by
  have B0 := (Below.refl w.heap.size w).alloc (Nat.le_refl _) (.cells #[.int .i64 0, .slice none 0 0] 25)
  have x0 := Box.new w (.int .i64 0) (.slice none 0 0) 25
  have h0 := (h.below B0 (Nat.le_refl _)).more (hi' := (w.alloc (.cells #[.int .i64 0, .slice none 0 0] 25)).heap.size) (by rw [hsz]; omega)
  go_enter Try.func23, Try.ntmps23
  go_wp2_with fail
  refine (l20Open_any A c bs _ h0 hl hc).mono ?_
  rintro e w1 ⟨rfl, hb1, c', bs', hl', rd⟩
  have x1 := x0.below hb1 (by rw [hsz]; omega)
  rw [hsz] at hb1 rd
  have z1 := hb1.size
  rw [hsz] at z1
  have B1 := B0.trans (hb1.mono (by omega))
  clear h h0 hb1 x0 B0
  go_wp2_with fail
  refine (l20Case_any (w.heap.size + 1) A c' bs' 0 9 _ (by simpa [hsz] using rd) (by omega) (by omega) hl' (by omega)).mono ?_
  rintro e w2 ⟨E, A2, c2, xs, rfl, ho2, hx5, _, hch2⟩
  have x2 := x1.chg hch2 (by omega)
  have z2 := hch2.size
  have B2 := B1.trans (hch2.below (B := w.heap.size) (by omega) (by omega))
  have p1 := x2.c0
  have p2 := x2.c1
  have p3 := x2.f0
  have p4 := x2.f1
  have ho2' : Own w2 (w.heap.size + 1) w2.heap.size A2 xs := ho2.more (by omega) (Nat.le_refl _)
  clear x1 x2 hch2 rd ho2 B1
  go_wp2
  refine bodyPost_ret (v := .agg #[.int .i64 E, .slice A2 xs.length c2]) (by simp [results, Try.results23, go_sem, p1, p2]) rfl ?_
  exact ⟨E, A2, c2, xs, hx5, rfl, ((ho2'.set_out (.inl (by simp)) _).set_out (.inl (by simp)) _).more (by omega) (by simp [World.setCell]), (B2.setCell (by simp) _).setCell (by simp) _⟩


set_option maxRecDepth 10000 in
set_option maxHeartbeats 400000 in
theorem drawGameShares_any (A : Option Addr) (c : Nat) (bs : List Int) (w : World) (h : Bytes w w.heap.size A bs) (hl : bs.length ≤ 9223372036854775807) (hc : bs.length ≤ c) :
    Calls Try.prog 32 #[.slice A bs.length c] w (DrawnCase w) := by
  have B0 := (Below.refl w.heap.size w).alloc (Nat.le_refl _) (.cells #[.int .i64 0, .slice none 0 0] 25)
  have x0 := Box.new w (.int .i64 0) (.slice none 0 0) 25
  have h0 := (h.below B0 (Nat.le_refl _)).more (hi' := (w.alloc (.cells #[.int .i64 0, .slice none 0 0] 25)).heap.size) (by rw [hsz]; omega)
  go_enter Try.func32, Try.ntmps32
  go_wp2_with fail
  refine (l20Open_any A c bs _ h0 hl hc).mono ?_
  rintro e w1 ⟨rfl, hb1, c', bs', hl', rd⟩
  have x1 := x0.below hb1 (by rw [hsz]; omega)
  rw [hsz] at hb1 rd
  have z1 := hb1.size
  rw [hsz] at z1
  have B1 := B0.trans (hb1.mono (by omega))
  clear h h0 hb1 x0 B0
  go_wp2_with fail
  refine (l20Case_any (w.heap.size + 1) A c' bs' 0 9 _ (by simpa [hsz] using rd) (by omega) (by omega) hl' (by omega)).mono ?_
  rintro e w2 ⟨E, A2, c2, xs, rfl, ho2, hx5, _, hch2⟩
  have x2 := x1.chg hch2 (by omega)
  have z2 := hch2.size
  have B2 := B1.trans (hch2.below (B := w.heap.size) (by omega) (by omega))
  have p1 := x2.c0
  have p2 := x2.c1
  have p3 := x2.f0
  have p4 := x2.f1
  have ho2' : Own w2 (w.heap.size + 1) w2.heap.size A2 xs := ho2.more (by omega) (Nat.le_refl _)
  clear x1 x2 hch2 rd ho2 B1
  go_wp2
  refine bodyPost_ret (v := .agg #[.int .i64 E, .slice A2 xs.length c2]) (by simp [results, Try.results32, go_sem, p1, p2]) rfl ?_
  exact ⟨E, A2, c2, xs, hx5, rfl, ((ho2'.set_out (.inl (by simp)) _).set_out (.inl (by simp)) _).more (by omega) (by simp [World.setCell]), (B2.setCell (by simp) _).setCell (by simp) _⟩


set_option maxRecDepth 10000 in
set_option maxHeartbeats 2000000 in
theorem drawOrderAwards_any (A : Option Addr) (c : Nat) (bs : List Int) (w : World) (h : Bytes w w.heap.size A bs) (hl : bs.length ≤ 9223372036854775807) (hc : bs.length ≤ c) :
    Calls Try.prog 15 #[.slice A bs.length c] w (DrawnNamed w) := by
  go_enter Try.func15, Try.ntmps15
  have o1_ := h.below ((Below.refl _ _).alloc (Nat.le_refl _) (.cells #[.int .i64 0, .slice none 0 0] 25)) (by first | omega | (simp; omega) | simp)
  have B2_ := (Below.refl w.heap.size w).alloc (Nat.le_refl _) (.cells #[.int .i64 0, .slice none 0 0] 25)
  have a3_ : (w.alloc (.cells #[.int .i64 0, .slice none 0 0] 25)).cell? ⟨w.heap.size, 0, none⟩ = some (.int .i64 0) := by simp [go_sem]
  have a4_ : (w.alloc (.cells #[.int .i64 0, .slice none 0 0] 25)).cell? ⟨w.heap.size, 1, none⟩ = some (.slice none 0 0) := by simp [go_sem]
  have f5_ : (w.alloc (.cells #[.int .i64 0, .slice none 0 0] 25)).frozen? ⟨w.heap.size, 0, none⟩ = false := by simp [go_sem]
  have f6_ : (w.alloc (.cells #[.int .i64 0, .slice none 0 0] 25)).frozen? ⟨w.heap.size, 1, none⟩ = false := by simp [go_sem]
  go_wp2_with fail
  refine (drawNamedCase_any A c bs _ (o1_.more (by first | omega | (simp; omega) | simp)) hl hc).mono ?_
  rintro e w7 ⟨E, A9_, c10_, A12_, c13_, xs, os, hx5, hy6, rfl, ho11_, ho14_, hb8_⟩
  have ho11_ := ho11_.more (lo' := w.heap.size + 1) (by simp) (Nat.le_refl _)
  have ho14_ := ho14_.more (lo' := w.heap.size + 1) (by simp) (Nat.le_refl _)
  have o15_ := o1_.below hb8_ (by first | omega | (simp; omega) | simp)
  have o16_ := (hb8_.cell (p := ⟨w.heap.size, 0, none⟩) (by first | omega | (simp; omega) | simp)).trans a3_
  have o17_ := (hb8_.cell (p := ⟨w.heap.size, 1, none⟩) (by first | omega | (simp; omega) | simp)).trans a4_
  have o18_ := (hb8_.frozen (p := ⟨w.heap.size, 0, none⟩) (by first | omega | (simp; omega) | simp)).trans f5_
  have o19_ := (hb8_.frozen (p := ⟨w.heap.size, 1, none⟩) (by first | omega | (simp; omega) | simp)).trans f6_
  have z20_ := hb8_.size
  try simp at z20_
  have B21_ := B2_.trans (hb8_.mono (by first | omega | (simp; omega) | simp))
  clear hb8_
  have hC22_ := Chg.setCell (lo := w.heap.size) (hi := w.heap.size + 1) w7 (p := ⟨w.heap.size, 0, none⟩) ⟨Nat.le_refl _, Nat.lt_succ_self _⟩ (.int .i64 E)
  have a23_ := cell_set o16_ (.int .i64 E)
  have a24_ := cell_set_off o17_ (i := 0) (by omega) (.int .i64 E)
  have f25_ := frozen_set o18_ ⟨w.heap.size, 0, none⟩ (.int .i64 E)
  have f26_ := frozen_set o19_ ⟨w.heap.size, 0, none⟩ (.int .i64 E)
  have o27_ := o15_.chg hC22_ (by first | omega | (simp; omega) | simp) (by omega)
  have o28_ := ho11_.chg hC22_ (by first | omega | (simp; omega) | simp) (by omega)
  have o29_ := ho14_.chg hC22_ (by first | omega | (simp; omega) | simp) (by omega)
  have z30_ := hC22_.size
  try simp at z30_
  have B31_ := B21_.trans (hC22_.below (by omega) (by first | omega | (simp; omega) | simp))
  clear hC22_
  have hC32_ := Chg.setCell (lo := w.heap.size) (hi := w.heap.size + 1) (w7.setCell ⟨w.heap.size, 0, none⟩ (.int .i64 E)) (p := ⟨w.heap.size, 1, none⟩) ⟨Nat.le_refl _, Nat.lt_succ_self _⟩ (.slice A9_ xs.length c10_)
  have a33_ := cell_set_off a23_ (i := 1) (by omega) (.slice A9_ xs.length c10_)
  have a34_ := cell_set a24_ (.slice A9_ xs.length c10_)
  have f35_ := frozen_set f25_ ⟨w.heap.size, 1, none⟩ (.slice A9_ xs.length c10_)
  have f36_ := frozen_set f26_ ⟨w.heap.size, 1, none⟩ (.slice A9_ xs.length c10_)
  have o37_ := o27_.chg hC32_ (by first | omega | (simp; omega) | simp) (by omega)
  have o38_ := o28_.chg hC32_ (by first | omega | (simp; omega) | simp) (by omega)
  have o39_ := o29_.chg hC32_ (by first | omega | (simp; omega) | simp) (by omega)
  have z40_ := hC32_.size
  try simp at z40_
  have B41_ := B31_.trans (hC32_.below (by omega) (by first | omega | (simp; omega) | simp))
  clear hC32_
  go_wp2
  refine bodyPost_ret (v := .tuple #[.agg #[.int .i64 E, .slice A9_ xs.length c10_], .slice A12_ os.length c13_]) (by simp [results, Try.results15, go_sem, a33_, a34_]) rfl ?_
  exact ⟨E, A9_, c10_, A12_, c13_, xs, os, hx5, hy6, rfl, o38_.more (by omega) (by first | omega | (simp; omega) | simp), o39_.more (by omega) (by first | omega | (simp; omega) | simp), B41_⟩


end Go.Proofs.Ytmkmipgboecdaaa
