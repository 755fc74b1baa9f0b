/-
  Chapter 7, the program's functions OrderAwards, BringsOf, GameShares. They make new memory only. No condition but lengths that fit.
-/
import Derived.Test.YtkkdolbbioeknaaSpec7C
import Derived.Test.YtkkdolbbioeknaaGame6A
import Derived.BigQuiet
import Derived.Deep.Cut
namespace Go.Proofs.Ytkkdolbbioeknaa
open Go.RowKit


theorem left_step48 {E : Int} {xs os : List Int} {k x : Nat} {u m L : Int} (hx : ∀ k, 0 ≤ xs.getD k 0) (ho : os.getD k 0 = (x : Int)) (hu : u = xs.getD x 0) (hL : L = 48 * leftTo E xs os k) (hm : min (48 * u) L = m) : L - m = 48 * leftTo E xs os (k + 1) ∧ m = posAt E xs os k := by
  have e1 := hx x
  have e2 := bef_pos hx (os := os) k
  simp only [leftTo, bef, posAt, mar, ho, Int.toNat_natCast] at *
  omega

set_option maxRecDepth 10000 in
set_option maxHeartbeats 1000000 in
theorem implOrderAwards_yy (E : Int) (A : Option Addr) (c : Nat) (xs : List Int) (D : Option Addr) (d : Nat) (os : List Int) (w : World) (lo hi : Nat) (h : Ints w lo hi A xs) (hh : hi ≤ w.heap.size) (hl : xs.length ≤ 1152921504606846976) (lo' hi' : Nat) (h' : Ints w lo' hi' D os) (hh' : hi' ≤ w.heap.size) (hl' : os.length ≤ 1152921504606846976) (hok : caseOkB E xs = true) (ho : orderB xs.length os = true) :
    Calls Try.prog 61 #[.agg #[.int .i64 E, .slice A xs.length c], .slice D os.length d] w (RetInts w (ordRow E xs os)) := by
  have HCB := Lib.hid hok
  have HOB := Lib.hid ho
  clear hok ho
  have hbd := caseOk_bd HCB.out
  have HN := Lib.hid (case_nonneg HCB.out)
  have HV := Lib.hid (case_rg HCB.out)
  have hoi := order_iff HOB.out
  have HOT : Hid (OrdTo os xs.length os.length) := hoi.2
  have hol1 : os.length ≤ xs.length := by have e := hoi.1; omega
  have hol2 : xs.length ≤ os.length := by have e := hoi.1; omega
  clear hoi
  go_enter Try.func61, Try.ntmps61
  have o1_ := h.alloc (by first | omega | (simp; omega) | simp) (.cells #[.int .i64 E, .slice A xs.length c] 28)
  have o2_ := h'.alloc (by first | omega | (simp; omega) | simp) (.cells #[.int .i64 E, .slice A xs.length c] 28)
  have B3_ := (Below.refl w.heap.size w).alloc (Nat.le_refl _) (.cells #[.int .i64 E, .slice A xs.length c] 28)
  have a4_ : (w.alloc (.cells #[.int .i64 E, .slice A xs.length c] 28)).cell? ⟨w.heap.size, 0, none⟩ = some (.int .i64 E) := by simp [go_sem]
  have a5_ : (w.alloc (.cells #[.int .i64 E, .slice A xs.length c] 28)).cell? ⟨w.heap.size, 1, none⟩ = some (.slice A xs.length c) := by simp [go_sem]
  go_wp2_with fail
  refine (implCaseOk_any E A c xs _ _ _ o1_ (by first | omega | (simp; omega) | simp) hl).mono ?_
  rintro e w6 ⟨he, hb6_⟩
  rw [HCB.out] at he
  subst he
  have o7_ := o1_.below hb6_ (by first | omega | (simp; omega) | simp)
  have o8_ := o2_.below hb6_ (by first | omega | (simp; omega) | simp)
  have o9_ := (hb6_.cell (p := ⟨w.heap.size, 0, none⟩) (by first | omega | (simp; omega) | simp)).trans a4_
  have o10_ := (hb6_.cell (p := ⟨w.heap.size, 1, none⟩) (by first | omega | (simp; omega) | simp)).trans a5_
  have z11_ := hb6_.size
  try simp at z11_
  have B12_ := B3_.trans (hb6_.mono (by first | omega | (simp; omega) | simp))
  clear hb6_
  go_wp2_with fail
  refine (isOrder_any D d os xs.length _ _ _ o8_ (by first | omega | (simp; omega) | simp) (by omega) hl').mono ?_
  rintro e w13 ⟨he, hb13_⟩
  rw [HOB.out] at he
  subst he
  have o14_ := o7_.below hb13_ (by first | omega | (simp; omega) | simp)
  have o15_ := o8_.below hb13_ (by first | omega | (simp; omega) | simp)
  have o16_ := (hb13_.cell (p := ⟨w.heap.size, 0, none⟩) (by first | omega | (simp; omega) | simp)).trans o9_
  have o17_ := (hb13_.cell (p := ⟨w.heap.size, 1, none⟩) (by first | omega | (simp; omega) | simp)).trans o10_
  have z18_ := hb13_.size
  have B19_ := B12_.trans (hb13_.mono (by first | omega | (simp; omega) | simp))
  clear hb13_
  go_upto_region 4 with (at_make; (refine make_gr (by rfl) _ _ (by rfl) (n := os.length) (x := (os.length : Int)) (by omega) (by rfl) (by rfl) (by omega) ?_; intro w20 G20_ hb21_))
  have o23_ := o14_.below hb21_ (by first | omega | (simp; omega) | simp)
  have o24_ := o15_.below hb21_ (by first | omega | (simp; omega) | simp)
  have o25_ := (hb21_.cell (p := ⟨w.heap.size, 0, none⟩) (by first | omega | (simp; omega) | simp)).trans o16_
  have o26_ := (hb21_.cell (p := ⟨w.heap.size, 1, none⟩) (by first | omega | (simp; omega) | simp)).trans o17_
  have z27_ := hb21_.size
  have B28_ := B19_.trans (hb21_.mono (by first | omega | (simp; omega) | simp))
  clear hb21_
  have l29_ := G20_.lt
  have HL30_ : Hid ((List.replicate os.length 0).length = os.length) := List.length_replicate
  go_wp2
  go_loopw [28, 6] (fun i l wr => ∃ k : Nat, ∃ L : Int, i = .int .i64 k ∧ l = .int .i64 L ∧ (k ≤ os.length) ∧ (L = 48 * leftTo E xs os k) ∧ (0 ≤ L) ∧ (L ≤ 2304) ∧ Grow wr w13.heap.size os.length (placed (posRow E xs os) os xs.length k) ∧ Below w.heap.size w wr ∧ w20.heap.size ≤ wr.heap.size ∧ Ints wr (lo) (hi) A xs ∧ Ints wr (lo') (hi') D os ∧ wr.cell? ⟨w.heap.size, 0, none⟩ = some (.int .i64 E) ∧ wr.cell? ⟨w.heap.size, 1, none⟩ = some (.slice A xs.length c)) (fun i l _ => os.length - (intOf i).toNat)
  case atStart => exact ⟨0, 48 * E, rfl, rfl, Nat.zero_le _, by rw [left_zero (by omega)], by omega, by omega, (by rw [placed_zero, show xs.length = os.length by omega]; exact G20_), B28_, (by first | omega | (simp; omega) | simp), o23_, o24_, o25_, o26_⟩
  case round =>
    obtain ⟨k, L, rfl, rfl, hk, hlf, hL0, hL1, G32_, k33_, k34_, k35_, k36_, k37_, k38_⟩ := hrel
    obtain ⟨w31, rfl⟩ : ∃ x, x = wr := ⟨_, rfl⟩
    have HL39_ : Hid ((placed (posRow E xs os) os xs.length k).length = os.length) := (by show _ = _; rw [placed_length]; omega)
    have l40_ := G32_.lt
    have HLF := Lib.hid hlf
    clear hlf
    by_cases hlt0 : k < os.length
    · obtain ⟨b41_, f42_, rfl, _, b41_h, -⟩ := k36_ (by omega)
      have c43_ : w31.cell? ⟨b41_, f42_ + k, none⟩ = some (.int .i64 (os.getD k 0)) := k36_.at2 k (by first | omega | (simp; omega) | simp)
      have c43_i : (k : Int) < (os.length : Int) := by omega
      have c43_j : (0 : Int) ≤ (k : Int) := by omega
      have v44_g := ord_rg HOT.out (k := k) (by omega)
      obtain ⟨v44_, hv44_⟩ : ∃ v, v = os.getD k 0 := ⟨_, rfl⟩
      rw [← hv44_] at c43_ v44_g
      have Hv44_ := Lib.hid hv44_
      clear hv44_
      obtain ⟨v44_g1, v44_g2⟩ := v44_g
      obtain ⟨x45_, hx45_⟩ : ∃ x : Nat, v44_ = (x : Int) := ⟨(v44_).toNat, by omega⟩
      have Hx45_ := Lib.hid hx45_
      have x45_b : x45_ < xs.length := by omega
      obtain ⟨b46_, f47_, rfl, _, b46_h, -⟩ := k35_ (by omega)
      have c48_ : w31.cell? ⟨b46_, f47_ + x45_, none⟩ = some (.int .i64 (xs.getD x45_ 0)) := k35_.at2 x45_ (by first | omega | (simp; omega) | simp)
      have c48_i : (x45_ : Int) < (xs.length : Int) := by omega
      have c48_j : (0 : Int) ≤ (x45_ : Int) := by omega
      have v49_g := (HV.out x45_ : 0 ≤ xs.getD x45_ 0 ∧ xs.getD x45_ 0 ≤ 48)
      obtain ⟨v49_, hv49_⟩ : ∃ v, v = xs.getD x45_ 0 := ⟨_, rfl⟩
      rw [← hv49_] at c48_ v49_g
      have Hv49_ := Lib.hid hv49_
      clear hv49_
      obtain ⟨v49_g1, v49_g2⟩ := v49_g
      obtain ⟨m50_, hm50_⟩ : ∃ m : Int, (if L < (48 * v49_) then L else (48 * v49_)) = m := ⟨_, rfl⟩
      have hm50_x : min (48 * v49_) L = m50_ := by rw [← hm50_]; split <;> omega
      have Hm50_ := Lib.hid hm50_x
      have m50_l : m50_ ≤ (48 * v49_) := by have e := Hm50_.out; omega
      have m50_u : m50_ ≤ L := by have e := Hm50_.out; omega
      have m50_o : m50_ = (48 * v49_) ∨ m50_ = L := by have e := Hm50_.out; omega
      have c52_ := G32_.at_ x45_ (by rw [placed_length]; omega)
      have c52_f := G32_.soft x45_ (by rw [placed_length]; omega)
      have c52_i : (x45_ : Int) < (os.length : Int) := by omega
      have c52_j : (0 : Int) ≤ (x45_ : Int) := by omega
      have hC51_ := Chg.setCell (lo := w13.heap.size) (hi := w13.heap.size + 1) w31 (p := ⟨w13.heap.size, x45_, none⟩) ⟨Nat.le_refl _, Nat.lt_succ_self _⟩ (.int .i64 m50_)
      have G53_ := G32_.store x45_ m50_
      have o54_ := k35_.chg hC51_ (by first | omega | (simp; omega) | simp) (by omega)
      have o55_ := k36_.chg hC51_ (by first | omega | (simp; omega) | simp) (by omega)
      have o56_ := (hC51_.cell (p := ⟨w.heap.size, 0, none⟩) (by first | omega | (simp; omega) | simp) (by first | omega | (simp; omega) | simp)).trans k37_
      have o57_ := (hC51_.cell (p := ⟨w.heap.size, 1, none⟩) (by first | omega | (simp; omega) | simp) (by first | omega | (simp; omega) | simp)).trans k38_
      have z58_ := hC51_.size
      try simp at z58_
      have B59_ := k33_.trans (hC51_.below (by omega) (by first | omega | (simp; omega) | simp))
      clear hC51_
      have c60_ : (w31.setCell ⟨w13.heap.size, x45_, none⟩ (.int .i64 m50_)).cell? ⟨w13.heap.size, x45_, none⟩ = some (.int .i64 m50_) := by have e := G53_.at_ x45_ (by rw [List.length_set]; rw [placed_length]; omega); rw [getD_set_same _ _ _ _ (by rw [placed_length]; omega)] at e; exact e
      have c60_i : (x45_ : Int) < (os.length : Int) := by omega
      have c60_j : (0 : Int) ≤ (x45_ : Int) := by omega
      go_wp2
      go_roundw
      case rel => exact ⟨k + 1, L - m50_, by go_num, by go_num, by omega, (left_step48 (os := os) (k := k) HN.out (x := x45_) (by rw [← Hv44_.out]; exact Hx45_.out) Hv49_.out HLF.out Hm50_.out).1, by omega, by omega, (by have e := left_step48 (os := os) (k := k) HN.out (x := x45_) (by rw [← Hv44_.out]; exact Hx45_.out) Hv49_.out HLF.out Hm50_.out; have e2 := placed_set (xs := posRow E xs os) (n := xs.length) (k := k) (y := x45_) (by rw [← Hv44_.out]; exact Hx45_.out) m50_ (by rw [posRow_getD _ _ _ _ hlt0]; exact e.2.symm); rw [← e2]; exact G53_), B59_, (by first | omega | (simp; omega) | simp), o54_, o55_, o56_, o57_⟩
      case measure => simp [intOf] <;> omega
    · obtain rfl : k = os.length := by omega
      have hfin : ordRow E xs os = placed (posRow E xs os) os xs.length os.length := by rw [ordRow, if_pos ⟨HCB.out, HOB.out⟩]; rfl
      go_wp2
      go_ret
      rw [hfin]
      (refine retInts_grow G32_ (by omega) ?_ k33_; rw [placed_length]; omega)

set_option maxRecDepth 10000 in
set_option maxHeartbeats 1000000 in
theorem implOrderAwards_yn (E : Int) (A : Option Addr) (c : Nat) (xs : List Int) (D : Option Addr) (d : Nat) (os : List Int) (w : World) (lo hi : Nat) (h : Ints w lo hi A xs) (hh : hi ≤ w.heap.size) (hl : xs.length ≤ 1152921504606846976) (lo' hi' : Nat) (h' : Ints w lo' hi' D os) (hh' : hi' ≤ w.heap.size) (hl' : os.length ≤ 1152921504606846976) (hok : caseOkB E xs = true) (ho : orderB xs.length os = false) :
    Calls Try.prog 61 #[.agg #[.int .i64 E, .slice A xs.length c], .slice D os.length d] w (RetInts w (ordRow E xs os)) := by
  have HCB := Lib.hid hok
  have HOB := Lib.hid ho
  clear hok ho
  have hbd := caseOk_bd HCB.out
  have HN := Lib.hid (case_nonneg HCB.out)
  have HV := Lib.hid (case_rg HCB.out)
  go_enter Try.func61, Try.ntmps61
  have o1_ := h.alloc (by first | omega | (simp; omega) | simp) (.cells #[.int .i64 E, .slice A xs.length c] 28)
  have o2_ := h'.alloc (by first | omega | (simp; omega) | simp) (.cells #[.int .i64 E, .slice A xs.length c] 28)
  have B3_ := (Below.refl w.heap.size w).alloc (Nat.le_refl _) (.cells #[.int .i64 E, .slice A xs.length c] 28)
  have a4_ : (w.alloc (.cells #[.int .i64 E, .slice A xs.length c] 28)).cell? ⟨w.heap.size, 0, none⟩ = some (.int .i64 E) := by simp [go_sem]
  have a5_ : (w.alloc (.cells #[.int .i64 E, .slice A xs.length c] 28)).cell? ⟨w.heap.size, 1, none⟩ = some (.slice A xs.length c) := by simp [go_sem]
  go_wp2_with fail
  refine (implCaseOk_any E A c xs _ _ _ o1_ (by first | omega | (simp; omega) | simp) hl).mono ?_
  rintro e w6 ⟨he, hb6_⟩
  rw [HCB.out] at he
  subst he
  have o7_ := o1_.below hb6_ (by first | omega | (simp; omega) | simp)
  have o8_ := o2_.below hb6_ (by first | omega | (simp; omega) | simp)
  have o9_ := (hb6_.cell (p := ⟨w.heap.size, 0, none⟩) (by first | omega | (simp; omega) | simp)).trans a4_
  have o10_ := (hb6_.cell (p := ⟨w.heap.size, 1, none⟩) (by first | omega | (simp; omega) | simp)).trans a5_
  have z11_ := hb6_.size
  try simp at z11_
  have B12_ := B3_.trans (hb6_.mono (by first | omega | (simp; omega) | simp))
  clear hb6_
  go_wp2_with fail
  refine (isOrder_any D d os xs.length _ _ _ o8_ (by first | omega | (simp; omega) | simp) (by omega) hl').mono ?_
  rintro e w13 ⟨he, hb13_⟩
  rw [HOB.out] at he
  subst he
  have o14_ := o7_.below hb13_ (by first | omega | (simp; omega) | simp)
  have o15_ := o8_.below hb13_ (by first | omega | (simp; omega) | simp)
  have o16_ := (hb13_.cell (p := ⟨w.heap.size, 0, none⟩) (by first | omega | (simp; omega) | simp)).trans o9_
  have o17_ := (hb13_.cell (p := ⟨w.heap.size, 1, none⟩) (by first | omega | (simp; omega) | simp)).trans o10_
  have z18_ := hb13_.size
  have B19_ := B12_.trans (hb13_.mono (by first | omega | (simp; omega) | simp))
  clear hb13_
  go_wp2
  go_ret
  exact retInts_nil (by rw [ordRow, if_neg (fun h => by have e := h.2; rw [HOB.out] at e; cases e)]) B19_

set_option maxRecDepth 10000 in
set_option maxHeartbeats 1000000 in
theorem implOrderAwards_nn (E : Int) (A : Option Addr) (c : Nat) (xs : List Int) (D : Option Addr) (d : Nat) (os : List Int) (w : World) (lo hi : Nat) (h : Ints w lo hi A xs) (hh : hi ≤ w.heap.size) (hl : xs.length ≤ 1152921504606846976) (lo' hi' : Nat) (h' : Ints w lo' hi' D os) (hh' : hi' ≤ w.heap.size) (hl' : os.length ≤ 1152921504606846976) (hok : caseOkB E xs = false) :
    Calls Try.prog 61 #[.agg #[.int .i64 E, .slice A xs.length c], .slice D os.length d] w (RetInts w (ordRow E xs os)) := by
  have HCB := Lib.hid hok
  clear hok
  have hlu := hl'
  have hhu := hh'
  go_enter Try.func61, Try.ntmps61
  have o1_ := h.alloc (by first | omega | (simp; omega) | simp) (.cells #[.int .i64 E, .slice A xs.length c] 28)
  have o2_ := h'.alloc (by first | omega | (simp; omega) | simp) (.cells #[.int .i64 E, .slice A xs.length c] 28)
  have B3_ := (Below.refl w.heap.size w).alloc (Nat.le_refl _) (.cells #[.int .i64 E, .slice A xs.length c] 28)
  have a4_ : (w.alloc (.cells #[.int .i64 E, .slice A xs.length c] 28)).cell? ⟨w.heap.size, 0, none⟩ = some (.int .i64 E) := by simp [go_sem]
  have a5_ : (w.alloc (.cells #[.int .i64 E, .slice A xs.length c] 28)).cell? ⟨w.heap.size, 1, none⟩ = some (.slice A xs.length c) := by simp [go_sem]
  go_wp2_with fail
  refine (implCaseOk_any E A c xs _ _ _ o1_ (by first | omega | (simp; omega) | simp) hl).mono ?_
  rintro e w6 ⟨he, hb6_⟩
  rw [HCB.out] at he
  subst he
  have o7_ := o1_.below hb6_ (by first | omega | (simp; omega) | simp)
  have o8_ := o2_.below hb6_ (by first | omega | (simp; omega) | simp)
  have o9_ := (hb6_.cell (p := ⟨w.heap.size, 0, none⟩) (by first | omega | (simp; omega) | simp)).trans a4_
  have o10_ := (hb6_.cell (p := ⟨w.heap.size, 1, none⟩) (by first | omega | (simp; omega) | simp)).trans a5_
  have z11_ := hb6_.size
  try simp at z11_
  have B12_ := B3_.trans (hb6_.mono (by first | omega | (simp; omega) | simp))
  clear hb6_
  go_wp2
  go_ret
  exact retInts_nil (by rw [ordRow, if_neg (fun h => by have e := h.1; rw [HCB.out] at e; cases e)]) B12_

theorem implOrderAwards_any (E : Int) (A : Option Addr) (c : Nat) (xs : List Int) (D : Option Addr) (d : Nat) (os : List Int) (w : World) (lo hi : Nat) (h : Ints w lo hi A xs) (hh : hi ≤ w.heap.size) (hl : xs.length ≤ 1152921504606846976) (lo' hi' : Nat) (h' : Ints w lo' hi' D os) (hh' : hi' ≤ w.heap.size) (hl' : os.length ≤ 1152921504606846976) :
    Calls Try.prog 61 #[.agg #[.int .i64 E, .slice A xs.length c], .slice D os.length d] w (RetInts w (ordRow E xs os)) := by
  by_cases hok : caseOkB E xs = true
  · by_cases ho : orderB xs.length os = true
    · exact implOrderAwards_yy E A c xs D d os w lo hi h hh hl lo' hi' h' hh' hl' hok ho
    · exact implOrderAwards_yn E A c xs D d os w lo hi h hh hl lo' hi' h' hh' hl' hok (by simpa using ho)
  · exact implOrderAwards_nn E A c xs D d os w lo hi h hh hl lo' hi' h' hh' hl' (by simpa using hok)

theorem fac_up (m : Nat) : fac m * ((m : Int) + 1) = fac (m + 1) := by show _ = ((m : Int) + 1) * fac m; rw [Int.mul_comm]

set_option maxRecDepth 10000 in
set_option maxHeartbeats 400000 in
theorem countOrders_any (n : Nat) (w : World) (hn : n ≤ 4) :
    Calls Try.prog 62 #[.int .i64 (n : Int)] w fun e w' => e = .returned (.int .i64 (fac n)) ∧ w = w' := by
  go_enter Try.func62, Try.ntmps62
  go_wp2
  go_loop [6, 3] (fun k p => ∃ m : Nat, ∃ F : Int, k = .int .i64 (m : Int) ∧ p = .int .i64 F ∧ (m ≤ n) ∧ (F = fac m)) (fun k p => n - (intOf k).toNat)
  case atStart => exact ⟨0, 1, rfl, rfl, Nat.zero_le _, rfl⟩
  case round =>
    obtain ⟨m, F, rfl, rfl, hm, hF⟩ := hrel
    have HF := Lib.hid hF
    clear hF
    have hFb := fac_bd (n := m) (by omega)
    rw [← HF.out] at hFb
    obtain ⟨hFb1, hFb2⟩ := hFb
    by_cases hlt0 : m < n
    · obtain ⟨P1_, hP1_⟩ : ∃ P, F * ((m : Int) + 1) = P := ⟨_, rfl⟩
      have bP1_ := show 0 ≤ F * ((m : Int) + 1) ∧ F * ((m : Int) + 1) ≤ 24 from by rw [HF.out, fac_up]; have e := fac_bd (n := m + 1) (by omega); omega
      rw [hP1_] at bP1_
      obtain ⟨bP1_, bP1_'⟩ := bP1_
      have wP1_ : IntKind.i64.wrap P1_ = P1_ := IntWalk.i64_in _ (by omega)
      go_wp2
      go_round
      case rel => exact ⟨m + 1, P1_, by go_num, by go_num, (by omega), (by rw [← fac_up m, ← HF.out, ← hP1_])⟩
      case measure => simp [intOf] <;> omega
    · obtain rfl : m = n := by omega
      go_wp2
      go_ret
      exact ⟨ret_int HF.out, rfl⟩

theorem countOrders_at (x : Int) (n : Nat) (w : World) (hn : n ≤ 4) (hx : x = (n : Int)) : Calls Try.prog 62 #[.int .i64 x] w fun e w' => e = .returned (.int .i64 (fac n)) ∧ w = w' := by subst hx; exact countOrders_any n w hn

theorem pop_four {m n : Nat} (hm : m < 2 ^ n) (hn : n ≤ 4) : pop m 4 = pop m n := by
  have far : ∀ j, n ≤ j → m.testBit j = false := fun j hj => Nat.testBit_lt_two_pow (Nat.lt_of_lt_of_le hm (Nat.pow_le_pow_right (by omega) hj))
  have step : ∀ j, n ≤ j → pop m (j + 1) = pop m j := fun j hj => by simp only [pop]; rw [far j hj]; simp
  rcases (show n = 0 ∨ n = 1 ∨ n = 2 ∨ n = 3 ∨ n = 4 from by omega) with rfl | rfl | rfl | rfl | rfl
  · rw [step 3 (by omega), step 2 (by omega), step 1 (by omega), step 0 (by omega)]
  · rw [step 3 (by omega), step 2 (by omega), step 1 (by omega)]
  · rw [step 3 (by omega), step 2 (by omega)]
  · rw [step 3 (by omega)]
  · rfl

/-- The part of all orders in which just b people come before a given other one of n, in parts of a unit. -/
def ordPart (n b : Nat) : Int := 48 / fac n * fac b * fac (n - 1 - b)
theorem ordPart_of {n b : Nat} (h1 : 1 ≤ n) (h4 : n ≤ 4) : 48 * fac b * fac (n - 1 - b) / fac n = ordPart n b := by
  have e := (part_fac h1 h4).2
  have p := fac_pos n
  unfold ordPart
  generalize 48 / fac n = q at *
  rw [← e, show q * fac n * fac b * fac (n - 1 - b) = fac n * (q * fac b * fac (n - 1 - b)) from by rw [Int.mul_comm q]; simp only [Int.mul_assoc]]
  exact Int.mul_ediv_cancel_left _ (by omega)
theorem ordPart_rg {n b : Nat} (h1 : 1 ≤ n) (h4 : n ≤ 4) (hb : b + 1 ≤ n) : 0 ≤ ordPart n b ∧ ordPart n b ≤ 27648 := by
  have e := (part_fac h1 h4).1
  have e1 := fac_bd (n := b) (by omega)
  have e2 := fac_bd (n := n - 1 - b) (by omega)
  have e3 : 48 / fac n ≤ 48 := by have p := fac_bd h4; exact Int.ediv_le_self _ (by omega)
  unfold ordPart
  generalize 48 / fac n = q at *
  have p1 := mul_bd (A := 48) (B := 24) (b0 := 1) (show 0 ≤ q ∧ q ≤ 48 from ⟨by omega, e3⟩) e1
  have p2 := mul_bd (A := 48 * 24) (B := 24) (b0 := 1) p1 e2
  omega

theorem or_lt {m k n p : Nat} (hp : 2 ^ n = p) (hm : (m : Int) < (p : Int)) (hk : k < n) : m ||| 2 ^ k < p := by
  subst hp
  exact Nat.or_lt_two_pow (by exact_mod_cast hm) (Nat.pow_lt_pow_right (by omega) hk)
theorem cast_pow {n p : Nat} (hp : 2 ^ n = p) : (p : Int) = 2 ^ n := by subst hp; simp

/-- The share of i by the sets below m. -/
def shTo (E : Int) (xs : List Int) (m i : Nat) : Int := 48 / fac xs.length * gSum E xs i m
theorem shTo_zero (E : Int) (xs : List Int) (i : Nat) : shTo E xs 0 i = 0 := by simp [shTo, gSum]
theorem shTo_all {E : Int} {xs : List Int} (h : caseOkB E xs = true) {p : Nat} (hp : 2 ^ xs.length = p) {i : Nat} (hi : i < xs.length) : shTo E xs p i = arrAt E xs i := by
  have hb := caseOk_bd h
  have e := gSum_arr h hi
  have f := (part_fac (n := xs.length) (by omega) (by omega)).2
  have g := fac_pos xs.length
  subst hp
  rw [← e]
  unfold shTo
  generalize 48 / fac xs.length = q at *
  rw [← f, show gSum E xs i (2 ^ xs.length) * (q * fac xs.length) = fac xs.length * (q * gSum E xs i (2 ^ xs.length)) from by rw [Int.mul_comm (gSum _ _ _ _), Int.mul_comm q, Int.mul_assoc]]
  rw [Int.mul_ediv_cancel_left _ (by omega)]
theorem shTo_rg {E : Int} {xs : List Int} (h : caseOkB E xs = true) {i : Nat} (hi : i < xs.length) {m : Nat} (hm : m ≤ 17) : 0 ≤ shTo E xs m i ∧ shTo E xs m i ≤ 48 * (27648 * 17) := by
  have hb := caseOk_bd h
  have e := gSum_bd h hi m
  have e1 := (part_fac (n := xs.length) (by omega) (by omega)).1
  have e3 : 48 / fac xs.length ≤ 48 := by have p := fac_bd (n := xs.length) (by omega); exact Int.ediv_le_self _ (by omega)
  unfold shTo
  generalize 48 / fac xs.length = q at *
  exact mul_bd (A := 48) (B := 27648 * 17) (b0 := 0) ⟨by omega, e3⟩ ⟨e.1, by omega⟩
theorem mid7_rg {E : Int} {xs : List Int} (h : caseOkB E xs = true) {m j k : Nat} (hm : m < 16) (hk : k < xs.length) : 0 ≤ (fnRow xs.length (fun i => if i < j then shTo E xs (m + 1) i else shTo E xs m i)).getD k 0 ∧ (fnRow xs.length (fun i => if i < j then shTo E xs (m + 1) i else shTo E xs m i)).getD k 0 ≤ 48 * (27648 * 17) := by
  rw [fnRow_getD _ hk]
  have e1 := shTo_rg h hk (m := m) (by omega)
  have e2 := shTo_rg h hk (m := m + 1) (by omega)
  split <;> omega
theorem mid7_same (E : Int) (xs : List Int) {m j : Nat} (hb : m.testBit j = true) : fnRow xs.length (fun i => if i < j then shTo E xs (m + 1) i else shTo E xs m i) = fnRow xs.length (fun i => if i < (j + 1) then shTo E xs (m + 1) i else shTo E xs m i) :=
  fnRow_congr fun i hi => by
    by_cases e : i = j
    · subst e
      rw [if_neg (by omega), if_pos (by omega)]
      unfold shTo; rw [gSum_succ, gTerm_yes hb, Int.add_zero]
    · by_cases e2 : i < j
      · rw [if_pos e2, if_pos (by omega)]
      · rw [if_neg e2, if_neg (by omega)]
theorem mid7_step {E : Int} {xs : List Int} {m j : Nat} (hj : j < xs.length) (hb : m.testBit j = false) {v a b P : Int} (hv : v = (fnRow xs.length (fun i => if i < j then shTo E xs (m + 1) i else shTo E xs m i)).getD j 0) (ha : worth E xs (m ||| 2 ^ j : Nat) - worth E xs m = a) (hq : ordPart xs.length (pop m xs.length) = b) (hP : a * b = P) :
    (fnRow xs.length (fun i => if i < j then shTo E xs (m + 1) i else shTo E xs m i)).set j (v + P) = fnRow xs.length (fun i => if i < (j + 1) then shTo E xs (m + 1) i else shTo E xs m i) := by
  refine fnRow_set (fun i _ hn => ?_) ?_
  · by_cases e2 : i < j
    · (try simp only []); rw [if_pos e2, if_pos (by omega)]
    · (try simp only []); rw [if_neg e2, if_neg (by omega)]
  · (try simp only [])
    rw [hv, fnRow_getD _ hj, if_neg (by omega), if_pos (by omega), ← hP, ← ha, ← hq]
    unfold shTo ordPart
    rw [gSum_succ, Int.mul_add]
    congr 1
    unfold gTerm
    rw [if_neg (by rw [hb]; simp)]
    generalize worth E xs (m ||| 2 ^ j : Nat) - worth E xs m = x
    generalize fac (pop m xs.length) = y
    generalize fac (xs.length - 1 - pop m xs.length) = z
    generalize 48 / fac xs.length = q
    rw [Int.mul_assoc q, Int.mul_left_comm x q, Int.mul_assoc x]

end Go.Proofs.Ytkkdolbbioeknaa
