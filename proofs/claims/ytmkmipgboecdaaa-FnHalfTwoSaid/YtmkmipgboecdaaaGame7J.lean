/-
  Chapter 7, the program's functions OrderAwards, BringsOf, GameShares. They make new memory only. No condition but lengths that fit.
-/
import Derived.Test.YtmkmipgboecdaaaSpec7C
import Derived.Test.YtmkmipgboecdaaaGame6A
import Derived.BigQuiet
import Derived.Deep.Cut
namespace Go.Proofs.Ytmkmipgboecdaaa
open Go.RowKit


theorem left_step48 {E : Int} {xs os : List Int} {k x : Nat} {u m L : Int} (hx : ∀ k, 0 ≤ xs.getD k 0) (ho : os.getD k 0 = (x : Int)) (hu : u = xs.getD x 0) (hL : L = 48 * leftTo E xs os k) (hm : min (48 * u) L = m) : L - m = 48 * leftTo E xs os (k + 1) ∧ m = posAt E xs os k := by
  have e1 := hx x
  have e2 := bef_pos hx (os := os) k
  simp only [leftTo, bef, posAt, mar, ho, Int.toNat_natCast] at *
  omega

set_option maxRecDepth 10000 in
set_option maxHeartbeats 1000000 in
theorem implOrderAwards_yy (E : Int) (A : Option Addr) (c : Nat) (xs : List Int) (D : Option Addr) (d : Nat) (os : List Int) (w : World) (lo hi : Nat) (h : Ints w lo hi A xs) (hh : hi ≤ w.heap.size) (hl : xs.length ≤ 1152921504606846976) (lo' hi' : Nat) (h' : Ints w lo' hi' D os) (hh' : hi' ≤ w.heap.size) (hl' : os.length ≤ 1152921504606846976) (hok : caseOkB E xs = true) (ho : orderB xs.length os = true) :
    Calls Try.prog 16 #[.agg #[.int .i64 E, .slice A xs.length c], .slice D os.length d] w (RetInts w (ordRow E xs os)) := by
  have HCB := Lib.hid hok
  have HOB := Lib.hid ho
  clear hok ho
  have hbd := caseOk_bd HCB.out
  have HN := Lib.hid (case_nonneg HCB.out)
  have HV := Lib.hid (case_rg HCB.out)
  have hoi := order_iff HOB.out
  have HOT : Hid (OrdTo os xs.length os.length) := hoi.2
  have hol1 : os.length ≤ xs.length := by have e := hoi.1; omega
  have hol2 : xs.length ≤ os.length := by have e := hoi.1; omega
  clear hoi
  go_enter Try.func16, Try.ntmps16
  have o1_ := h.alloc (by first | omega | (simp; omega) | simp) (.cells #[.int .i64 E, .slice A xs.length c] 25)
  have o2_ := h'.alloc (by first | omega | (simp; omega) | simp) (.cells #[.int .i64 E, .slice A xs.length c] 25)
  have B3_ := (Below.refl w.heap.size w).alloc (Nat.le_refl _) (.cells #[.int .i64 E, .slice A xs.length c] 25)
  have a4_ : (w.alloc (.cells #[.int .i64 E, .slice A xs.length c] 25)).cell? ⟨w.heap.size, 0, none⟩ = some (.int .i64 E) := by simp [go_sem]
  have a5_ : (w.alloc (.cells #[.int .i64 E, .slice A xs.length c] 25)).cell? ⟨w.heap.size, 1, none⟩ = some (.slice A xs.length c) := by simp [go_sem]
  go_wp2_with fail
  refine (implCaseOk_any E A c xs _ _ _ o1_ (by first | omega | (simp; omega) | simp) hl).mono ?_
  rintro e w6 ⟨he, hb6_⟩
  rw [HCB.out] at he
  subst he
  have o7_ := o1_.below hb6_ (by first | omega | (simp; omega) | simp)
  have o8_ := o2_.below hb6_ (by first | omega | (simp; omega) | simp)
  have o9_ := (hb6_.cell (p := ⟨w.heap.size, 0, none⟩) (by first | omega | (simp; omega) | simp)).trans a4_
  have o10_ := (hb6_.cell (p := ⟨w.heap.size, 1, none⟩) (by first | omega | (simp; omega) | simp)).trans a5_
  have z11_ := hb6_.size
  try simp at z11_
  have B12_ := B3_.trans (hb6_.mono (by first | omega | (simp; omega) | simp))
  clear hb6_
  go_wp2_with fail
  refine (isOrder_any D d os xs.length _ _ _ o8_ (by first | omega | (simp; omega) | simp) (by omega) hl').mono ?_
  rintro e w13 ⟨he, hb13_⟩
  rw [HOB.out] at he
  subst he
  have o14_ := o7_.below hb13_ (by first | omega | (simp; omega) | simp)
  have o15_ := o8_.below hb13_ (by first | omega | (simp; omega) | simp)
  have o16_ := (hb13_.cell (p := ⟨w.heap.size, 0, none⟩) (by first | omega | (simp; omega) | simp)).trans o9_
  have o17_ := (hb13_.cell (p := ⟨w.heap.size, 1, none⟩) (by first | omega | (simp; omega) | simp)).trans o10_
  have z18_ := hb13_.size
  have B19_ := B12_.trans (hb13_.mono (by first | omega | (simp; omega) | simp))
  clear hb13_
  go_upto_region 4 with (at_make; (refine make_gr (by rfl) _ _ (by rfl) (n := os.length) (x := (os.length : Int)) (by omega) (by rfl) (by rfl) (by omega) ?_; intro w20 G20_ hb21_))
  have o23_ := o14_.below hb21_ (by first | omega | (simp; omega) | simp)
  have o24_ := o15_.below hb21_ (by first | omega | (simp; omega) | simp)
  have o25_ := (hb21_.cell (p := ⟨w.heap.size, 0, none⟩) (by first | omega | (simp; omega) | simp)).trans o16_
  have o26_ := (hb21_.cell (p := ⟨w.heap.size, 1, none⟩) (by first | omega | (simp; omega) | simp)).trans o17_
  have z27_ := hb21_.size
  have B28_ := B19_.trans (hb21_.mono (by first | omega | (simp; omega) | simp))
  clear hb21_
  have l29_ := G20_.lt
  have HL30_ : Hid ((List.replicate os.length 0).length = os.length) := List.length_replicate
  go_wp2
  go_loopw [28, 6] (fun i l wr => ∃ k : Nat, ∃ L : Int, i = .int .i64 k ∧ l = .int .i64 L ∧ (k ≤ os.length) ∧ (L = 48 * leftTo E xs os k) ∧ (0 ≤ L) ∧ (L ≤ 2304) ∧ Grow wr w13.heap.size os.length (placed (posRow E xs os) os xs.length k) ∧ Below w.heap.size w wr ∧ w20.heap.size ≤ wr.heap.size ∧ Ints wr (lo) (hi) A xs ∧ Ints wr (lo') (hi') D os ∧ wr.cell? ⟨w.heap.size, 0, none⟩ = some (.int .i64 E) ∧ wr.cell? ⟨w.heap.size, 1, none⟩ = some (.slice A xs.length c)) (fun i l _ => os.length - (intOf i).toNat)
  case atStart => exact ⟨0, 48 * E, rfl, rfl, Nat.zero_le _, by rw [left_zero (by omega)], by omega, by omega, (by rw [placed_zero, show xs.length = os.length by omega]; exact G20_), B28_, (by first | omega | (simp; omega) | simp), o23_, o24_, o25_, o26_⟩
  case round =>
    obtain ⟨k, L, rfl, rfl, hk, hlf, hL0, hL1, G32_, k33_, k34_, k35_, k36_, k37_, k38_⟩ := hrel
    obtain ⟨w31, rfl⟩ : ∃ x, x = wr := ⟨_, rfl⟩
    have HL39_ : Hid ((placed (posRow E xs os) os xs.length k).length = os.length) := (by show _ = _; rw [placed_length]; omega)
    have l40_ := G32_.lt
    have HLF := Lib.hid hlf
    clear hlf
    by_cases hlt0 : k < os.length
    · obtain ⟨b41_, f42_, rfl, _, b41_h, -⟩ := k36_ (by omega)
      have c43_ : w31.cell? ⟨b41_, f42_ + k, none⟩ = some (.int .i64 (os.getD k 0)) := k36_.at2 k (by first | omega | (simp; omega) | simp)
      have c43_i : (k : Int) < (os.length : Int) := by omega
      have c43_j : (0 : Int) ≤ (k : Int) := by omega
      have v44_g := ord_rg HOT.out (k := k) (by omega)
      obtain ⟨v44_, hv44_⟩ : ∃ v, v = os.getD k 0 := ⟨_, rfl⟩
      rw [← hv44_] at c43_ v44_g
      have Hv44_ := Lib.hid hv44_
      clear hv44_
      obtain ⟨v44_g1, v44_g2⟩ := v44_g
      obtain ⟨x45_, hx45_⟩ : ∃ x : Nat, v44_ = (x : Int) := ⟨(v44_).toNat, by omega⟩
      have Hx45_ := Lib.hid hx45_
      have x45_b : x45_ < xs.length := by omega
      obtain ⟨b46_, f47_, rfl, _, b46_h, -⟩ := k35_ (by omega)
      have c48_ : w31.cell? ⟨b46_, f47_ + x45_, none⟩ = some (.int .i64 (xs.getD x45_ 0)) := k35_.at2 x45_ (by first | omega | (simp; omega) | simp)
      have c48_i : (x45_ : Int) < (xs.length : Int) := by omega
      have c48_j : (0 : Int) ≤ (x45_ : Int) := by omega
      have v49_g := (HV.out x45_ : 0 ≤ xs.getD x45_ 0 ∧ xs.getD x45_ 0 ≤ 48)
      obtain ⟨v49_, hv49_⟩ : ∃ v, v = xs.getD x45_ 0 := ⟨_, rfl⟩
      rw [← hv49_] at c48_ v49_g
      have Hv49_ := Lib.hid hv49_
      clear hv49_
      obtain ⟨v49_g1, v49_g2⟩ := v49_g
      obtain ⟨m50_, hm50_⟩ : ∃ m : Int, (if L < (48 * v49_) then L else (48 * v49_)) = m := ⟨_, rfl⟩
      have hm50_x : min (48 * v49_) L = m50_ := by rw [← hm50_]; split <;> omega
      have Hm50_ := Lib.hid hm50_x
      have m50_l : m50_ ≤ (48 * v49_) := by have e := Hm50_.out; omega
      have m50_u : m50_ ≤ L := by have e := Hm50_.out; omega
      have m50_o : m50_ = (48 * v49_) ∨ m50_ = L := by have e := Hm50_.out; omega
      have c52_ := G32_.at_ x45_ (by rw [placed_length]; omega)
      have c52_f := G32_.soft x45_ (by rw [placed_length]; omega)
      have c52_i : (x45_ : Int) < (os.length : Int) := by omega
      have c52_j : (0 : Int) ≤ (x45_ : Int) := by omega
      have hC51_ := Chg.setCell (lo := w13.heap.size) (hi := w13.heap.size + 1) w31 (p := ⟨w13.heap.size, x45_, none⟩) ⟨Nat.le_refl _, Nat.lt_succ_self _⟩ (.int .i64 m50_)
      have G53_ := G32_.store x45_ m50_
      have o54_ := k35_.chg hC51_ (by first | omega | (simp; omega) | simp) (by omega)
      have o55_ := k36_.chg hC51_ (by first | omega | (simp; omega) | simp) (by omega)
      have o56_ := (hC51_.cell (p := ⟨w.heap.size, 0, none⟩) (by first | omega | (simp; omega) | simp) (by first | omega | (simp; omega) | simp)).trans k37_
      have o57_ := (hC51_.cell (p := ⟨w.heap.size, 1, none⟩) (by first | omega | (simp; omega) | simp) (by first | omega | (simp; omega) | simp)).trans k38_
      have z58_ := hC51_.size
      try simp at z58_
      have B59_ := k33_.trans (hC51_.below (by omega) (by first | omega | (simp; omega) | simp))
      clear hC51_
      have c60_ : (w31.setCell ⟨w13.heap.size, x45_, none⟩ (.int .i64 m50_)).cell? ⟨w13.heap.size, x45_, none⟩ = some (.int .i64 m50_) := by have e := G53_.at_ x45_ (by rw [List.length_set]; rw [placed_length]; omega); rw [getD_set_same _ _ _ _ (by rw [placed_length]; omega)] at e; exact e
      have c60_i : (x45_ : Int) < (os.length : Int) := by omega
      have c60_j : (0 : Int) ≤ (x45_ : Int) := by omega
      go_wp2
      go_roundw
      case rel => exact ⟨k + 1, L - m50_, by go_num, by go_num, by omega, (left_step48 (os := os) (k := k) HN.out (x := x45_) (by rw [← Hv44_.out]; exact Hx45_.out) Hv49_.out HLF.out Hm50_.out).1, by omega, by omega, (by have e := left_step48 (os := os) (k := k) HN.out (x := x45_) (by rw [← Hv44_.out]; exact Hx45_.out) Hv49_.out HLF.out Hm50_.out; have e2 := placed_set (xs := posRow E xs os) (n := xs.length) (k := k) (y := x45_) (by rw [← Hv44_.out]; exact Hx45_.out) m50_ (by rw [posRow_getD _ _ _ _ hlt0]; exact e.2.symm); rw [← e2]; exact G53_), B59_, (by first | omega | (simp; omega) | simp), o54_, o55_, o56_, o57_⟩
      case measure => simp [intOf] <;> omega
    · obtain rfl : k = os.length := by omega
      have hfin : ordRow E xs os = placed (posRow E xs os) os xs.length os.length := by rw [ordRow, if_pos ⟨HCB.out, HOB.out⟩]; rfl
      go_wp2
      go_ret
      rw [hfin]
      (refine retInts_grow G32_ (by omega) ?_ k33_; rw [placed_length]; omega)

set_option maxRecDepth 10000 in
set_option maxHeartbeats 1000000 in
theorem implOrderAwards_yn (E : Int) (A : Option Addr) (c : Nat) (xs : List Int) (D : Option Addr) (d : Nat) (os : List Int) (w : World) (lo hi : Nat) (h : Ints w lo hi A xs) (hh : hi ≤ w.heap.size) (hl : xs.length ≤ 1152921504606846976) (lo' hi' : Nat) (h' : Ints w lo' hi' D os) (hh' : hi' ≤ w.heap.size) (hl' : os.length ≤ 1152921504606846976) (hok : caseOkB E xs = true) (ho : orderB xs.length os = false) :
    Calls Try.prog 16 #[.agg #[.int .i64 E, .slice A xs.length c], .slice D os.length d] w (RetInts w (ordRow E xs os)) := by
  have HCB := Lib.hid hok
  have HOB := Lib.hid ho
  clear hok ho
  have hbd := caseOk_bd HCB.out
  have HN := Lib.hid (case_nonneg HCB.out)
  have HV := Lib.hid (case_rg HCB.out)
  go_enter Try.func16, Try.ntmps16
  have o1_ := h.alloc (by first | omega | (simp; omega) | simp) (.cells #[.int .i64 E, .slice A xs.length c] 25)
  have o2_ := h'.alloc (by first | omega | (simp; omega) | simp) (.cells #[.int .i64 E, .slice A xs.length c] 25)
  have B3_ := (Below.refl w.heap.size w).alloc (Nat.le_refl _) (.cells #[.int .i64 E, .slice A xs.length c] 25)
  have a4_ : (w.alloc (.cells #[.int .i64 E, .slice A xs.length c] 25)).cell? ⟨w.heap.size, 0, none⟩ = some (.int .i64 E) := by simp [go_sem]
  have a5_ : (w.alloc (.cells #[.int .i64 E, .slice A xs.length c] 25)).cell? ⟨w.heap.size, 1, none⟩ = some (.slice A xs.length c) := by simp [go_sem]
  go_wp2_with fail
  refine (implCaseOk_any E A c xs _ _ _ o1_ (by first | omega | (simp; omega) | simp) hl).mono ?_
  rintro e w6 ⟨he, hb6_⟩
  rw [HCB.out] at he
  subst he
  have o7_ := o1_.below hb6_ (by first | omega | (simp; omega) | simp)
  have o8_ := o2_.below hb6_ (by first | omega | (simp; omega) | simp)
  have o9_ := (hb6_.cell (p := ⟨w.heap.size, 0, none⟩) (by first | omega | (simp; omega) | simp)).trans a4_
  have o10_ := (hb6_.cell (p := ⟨w.heap.size, 1, none⟩) (by first | omega | (simp; omega) | simp)).trans a5_
  have z11_ := hb6_.size
  try simp at z11_
  have B12_ := B3_.trans (hb6_.mono (by first | omega | (simp; omega) | simp))
  clear hb6_
  go_wp2_with fail
  refine (isOrder_any D d os xs.length _ _ _ o8_ (by first | omega | (simp; omega) | simp) (by omega) hl').mono ?_
  rintro e w13 ⟨he, hb13_⟩
  rw [HOB.out] at he
  subst he
  have o14_ := o7_.below hb13_ (by first | omega | (simp; omega) | simp)
  have o15_ := o8_.below hb13_ (by first | omega | (simp; omega) | simp)
  have o16_ := (hb13_.cell (p := ⟨w.heap.size, 0, none⟩) (by first | omega | (simp; omega) | simp)).trans o9_
  have o17_ := (hb13_.cell (p := ⟨w.heap.size, 1, none⟩) (by first | omega | (simp; omega) | simp)).trans o10_
  have z18_ := hb13_.size
  have B19_ := B12_.trans (hb13_.mono (by first | omega | (simp; omega) | simp))
  clear hb13_
  go_wp2
  go_ret
  exact retInts_nil (by rw [ordRow, if_neg (fun h => by have e := h.2; rw [HOB.out] at e; cases e)]) B19_

set_option maxRecDepth 10000 in
set_option maxHeartbeats 1000000 in
theorem implOrderAwards_nn (E : Int) (A : Option Addr) (c : Nat) (xs : List Int) (D : Option Addr) (d : Nat) (os : List Int) (w : World) (lo hi : Nat) (h : Ints w lo hi A xs) (hh : hi ≤ w.heap.size) (hl : xs.length ≤ 1152921504606846976) (lo' hi' : Nat) (h' : Ints w lo' hi' D os) (hh' : hi' ≤ w.heap.size) (hl' : os.length ≤ 1152921504606846976) (hok : caseOkB E xs = false) :
    Calls Try.prog 16 #[.agg #[.int .i64 E, .slice A xs.length c], .slice D os.length d] w (RetInts w (ordRow E xs os)) := by
  have HCB := Lib.hid hok
  clear hok
  have hlu := hl'
  have hhu := hh'
  go_enter Try.func16, Try.ntmps16
  have o1_ := h.alloc (by first | omega | (simp; omega) | simp) (.cells #[.int .i64 E, .slice A xs.length c] 25)
  have o2_ := h'.alloc (by first | omega | (simp; omega) | simp) (.cells #[.int .i64 E, .slice A xs.length c] 25)
  have B3_ := (Below.refl w.heap.size w).alloc (Nat.le_refl _) (.cells #[.int .i64 E, .slice A xs.length c] 25)
  have a4_ : (w.alloc (.cells #[.int .i64 E, .slice A xs.length c] 25)).cell? ⟨w.heap.size, 0, none⟩ = some (.int .i64 E) := by simp [go_sem]
  have a5_ : (w.alloc (.cells #[.int .i64 E, .slice A xs.length c] 25)).cell? ⟨w.heap.size, 1, none⟩ = some (.slice A xs.length c) := by simp [go_sem]
  go_wp2_with fail
  refine (implCaseOk_any E A c xs _ _ _ o1_ (by first | omega | (simp; omega) | simp) hl).mono ?_
  rintro e w6 ⟨he, hb6_⟩
  rw [HCB.out] at he
  subst he
  have o7_ := o1_.below hb6_ (by first | omega | (simp; omega) | simp)
  have o8_ := o2_.below hb6_ (by first | omega | (simp; omega) | simp)
  have o9_ := (hb6_.cell (p := ⟨w.heap.size, 0, none⟩) (by first | omega | (simp; omega) | simp)).trans a4_
  have o10_ := (hb6_.cell (p := ⟨w.heap.size, 1, none⟩) (by first | omega | (simp; omega) | simp)).trans a5_
  have z11_ := hb6_.size
  try simp at z11_
  have B12_ := B3_.trans (hb6_.mono (by first | omega | (simp; omega) | simp))
  clear hb6_
  go_wp2
  go_ret
  exact retInts_nil (by rw [ordRow, if_neg (fun h => by have e := h.1; rw [HCB.out] at e; cases e)]) B12_

theorem implOrderAwards_any (E : Int) (A : Option Addr) (c : Nat) (xs : List Int) (D : Option Addr) (d : Nat) (os : List Int) (w : World) (lo hi : Nat) (h : Ints w lo hi A xs) (hh : hi ≤ w.heap.size) (hl : xs.length ≤ 1152921504606846976) (lo' hi' : Nat) (h' : Ints w lo' hi' D os) (hh' : hi' ≤ w.heap.size) (hl' : os.length ≤ 1152921504606846976) :
    Calls Try.prog 16 #[.agg #[.int .i64 E, .slice A xs.length c], .slice D os.length d] w (RetInts w (ordRow E xs os)) := by
  by_cases hok : caseOkB E xs = true
  · by_cases ho : orderB xs.length os = true
    · exact implOrderAwards_yy E A c xs D d os w lo hi h hh hl lo' hi' h' hh' hl' hok ho
    · exact implOrderAwards_yn E A c xs D d os w lo hi h hh hl lo' hi' h' hh' hl' hok (by simpa using ho)
  · exact implOrderAwards_nn E A c xs D d os w lo hi h hh hl lo' hi' h' hh' hl' (by simpa using hok)

theorem fac_up (m : Nat) : fac m * ((m : Int) + 1) = fac (m + 1) := by show _ = ((m : Int) + 1) * fac m; rw [Int.mul_comm]

set_option maxRecDepth 10000 in
set_option maxHeartbeats 400000 in
theorem countOrders_any (n : Nat) (w : World) (hn : n ≤ 4) :
    Calls Try.prog 66 #[.int .i64 (n : Int)] w fun e w' => e = .returned (.int .i64 (fac n)) ∧ w = w' := by
  go_enter Try.func66, Try.ntmps66
  go_wp2
  go_loop [6, 3] (fun k p => ∃ m : Nat, ∃ F : Int, k = .int .i64 (m : Int) ∧ p = .int .i64 F ∧ (m ≤ n) ∧ (F = fac m)) (fun k p => n - (intOf k).toNat)
  case atStart => exact ⟨0, 1, rfl, rfl, Nat.zero_le _, rfl⟩
  case round =>
    obtain ⟨m, F, rfl, rfl, hm, hF⟩ := hrel
    have HF := Lib.hid hF
    clear hF
    have hFb := fac_bd (n := m) (by omega)
    rw [← HF.out] at hFb
    obtain ⟨hFb1, hFb2⟩ := hFb
    by_cases hlt0 : m < n
    · obtain ⟨P1_, hP1_⟩ : ∃ P, F * ((m : Int) + 1) = P := ⟨_, rfl⟩
      have bP1_ := show 0 ≤ F * ((m : Int) + 1) ∧ F * ((m : Int) + 1) ≤ 24 from by rw [HF.out, fac_up]; have e := fac_bd (n := m + 1) (by omega); omega
      rw [hP1_] at bP1_
      obtain ⟨bP1_, bP1_'⟩ := bP1_
      have wP1_ : IntKind.i64.wrap P1_ = P1_ := IntWalk.i64_in _ (by omega)
      go_wp2
      go_round
      case rel => exact ⟨m + 1, P1_, by go_num, by go_num, (by omega), (by rw [← fac_up m, ← HF.out, ← hP1_])⟩
      case measure => simp [intOf] <;> omega
    · obtain rfl : m = n := by omega
      go_wp2
      go_ret
      exact ⟨ret_int HF.out, rfl⟩

theorem countOrders_at (x : Int) (n : Nat) (w : World) (hn : n ≤ 4) (hx : x = (n : Int)) : Calls Try.prog 66 #[.int .i64 x] w fun e w' => e = .returned (.int .i64 (fac n)) ∧ w = w' := by subst hx; exact countOrders_any n w hn

theorem ones64 (m : Nat) (w : World) (hm : m < 16) : Calls Try.prog 103 #[.int .u64 (m : Int)] w fun e w' => e = .returned (.int .i64 (pop m 4 : Nat)) ∧ w = w' := by
  rcases (show m = 0 ∨ m = 1 ∨ m = 2 ∨ m = 3 ∨ m = 4 ∨ m = 5 ∨ m = 6 ∨ m = 7 ∨ m = 8 ∨ m = 9 ∨ m = 10 ∨ m = 11 ∨ m = 12 ∨ m = 13 ∨ m = 14 ∨ m = 15 from by omega) with rfl | rfl | rfl | rfl | rfl | rfl | rfl | rfl | rfl | rfl | rfl | rfl | rfl | rfl | rfl | rfl
  all_goals
    go_enter Try.func103, Try.ntmps103
    go_wp2
    go_ret
    exact ⟨ret_int (by decide +kernel), rfl⟩
theorem ones_any (m : Nat) (w : World) (hm : m < 16) : Calls Try.prog 93 #[.int .u64 (m : Int)] w fun e w' => e = .returned (.int .i64 (pop m 4 : Nat)) ∧ w = w' := by
  go_enter Try.func93, Try.ntmps93
  go_wp2_with fail
  refine (ones64 m _ hm).mono ?_
  rintro e w' ⟨rfl, rfl⟩
  go_wp2
  go_ret
  exact ⟨rfl, rfl⟩
theorem pop_four {m n : Nat} (hm : m < 2 ^ n) (hn : n ≤ 4) : pop m 4 = pop m n := by
  have far : ∀ j, n ≤ j → m.testBit j = false := fun j hj => Nat.testBit_lt_two_pow (Nat.lt_of_lt_of_le hm (Nat.pow_le_pow_right (by omega) hj))
  have step : ∀ j, n ≤ j → pop m (j + 1) = pop m j := fun j hj => by simp only [pop]; rw [far j hj]; simp
  rcases (show n = 0 ∨ n = 1 ∨ n = 2 ∨ n = 3 ∨ n = 4 from by omega) with rfl | rfl | rfl | rfl | rfl
  · rw [step 3 (by omega), step 2 (by omega), step 1 (by omega), step 0 (by omega)]
  · rw [step 3 (by omega), step 2 (by omega), step 1 (by omega)]
  · rw [step 3 (by omega), step 2 (by omega)]
  · rw [step 3 (by omega)]
  · rfl

/-- The part of all orders in which just b people come before a given other one of n, in parts of a unit. -/
def ordPart (n b : Nat) : Int := 48 / fac n * fac b * fac (n - 1 - b)
theorem ordPart_of {n b : Nat} (h1 : 1 ≤ n) (h4 : n ≤ 4) : 48 * fac b * fac (n - 1 - b) / fac n = ordPart n b := by
  have e := (part_fac h1 h4).2
  have p := fac_pos n
  unfold ordPart
  generalize 48 / fac n = q at *
  rw [← e, show q * fac n * fac b * fac (n - 1 - b) = fac n * (q * fac b * fac (n - 1 - b)) from by rw [Int.mul_comm q]; simp only [Int.mul_assoc]]
  exact Int.mul_ediv_cancel_left _ (by omega)
theorem ordPart_rg {n b : Nat} (h1 : 1 ≤ n) (h4 : n ≤ 4) (hb : b + 1 ≤ n) : 0 ≤ ordPart n b ∧ ordPart n b ≤ 27648 := by
  have e := (part_fac h1 h4).1
  have e1 := fac_bd (n := b) (by omega)
  have e2 := fac_bd (n := n - 1 - b) (by omega)
  have e3 : 48 / fac n ≤ 48 := by have p := fac_bd h4; exact Int.ediv_le_self _ (by omega)
  unfold ordPart
  generalize 48 / fac n = q at *
  have p1 := mul_bd (A := 48) (B := 24) (b0 := 1) (show 0 ≤ q ∧ q ≤ 48 from ⟨by omega, e3⟩) e1
  have p2 := mul_bd (A := 48 * 24) (B := 24) (b0 := 1) p1 e2
  omega

theorem ones_at (m n b : Nat) (w : World) (hn : n ≤ 4) (hm : m < 16) (_hb : b ≤ n) (hp : m < 2 ^ n ∧ pop m n = b) : Calls Try.prog 93 #[.int .u64 (m : Int)] w fun e w' => e = .returned (.int .i64 (b : Int)) ∧ w = w' := by
  have e := ones_any m w hm
  rwa [pop_four hp.1 hn, hp.2] at e

set_option maxRecDepth 10000 in
set_option maxHeartbeats 1000000 in
theorem partsOf_any (m n b : Nat) (w : World) (h1 : 1 ≤ n) (hn : n ≤ 4) (hm : m < 16) (hb : b + 1 ≤ n) (hp : m < 2 ^ n ∧ pop m n = b) :
    Calls Try.prog 70 #[.int .i64 (m : Int), .int .i64 (n : Int)] w fun e w' => e = .returned (.int .i64 (ordPart n b)) ∧ w = w' := by
  have HB := Lib.hid hp
  clear hp
  go_enter Try.func70, Try.ntmps70
  go_wp2_with fail
  refine (ones_at m n b _ (by omega) (by omega) (by omega) HB.out).mono ?_
  rintro e w' ⟨rfl, rfl⟩
  go_wp2_with fail
  refine (countOrders_at (b : Int) b _ (by omega) (by omega)).mono ?_
  rintro e w' ⟨he, rfl⟩
  obtain ⟨v1_, hv1_⟩ : ∃ v, fac b = v := ⟨_, rfl⟩
  rw [hv1_] at he
  subst he
  have bv1_ : 1 ≤ v1_ ∧ v1_ ≤ 24 := by rw [← hv1_]; exact fac_bd (by omega)
  obtain ⟨bv1_1, bv1_2⟩ := bv1_
  have Hv1_ := Lib.hid hv1_
  clear hv1_
  go_wp2_with fail
  refine (countOrders_at (((n : Int) - (b : Int)) - 1) (n - 1 - b) _ (by omega) (by omega)).mono ?_
  rintro e w' ⟨he, rfl⟩
  obtain ⟨v2_, hv2_⟩ : ∃ v, fac (n - 1 - b) = v := ⟨_, rfl⟩
  rw [hv2_] at he
  subst he
  have bv2_ : 1 ≤ v2_ ∧ v2_ ≤ 24 := by rw [← hv2_]; exact fac_bd (by omega)
  obtain ⟨bv2_1, bv2_2⟩ := bv2_
  have Hv2_ := Lib.hid hv2_
  clear hv2_
  obtain ⟨P3_, hP3_⟩ : ∃ P, (48 * v1_) * v2_ = P := ⟨_, rfl⟩
  have bP3_ := show 0 ≤ (48 * v1_) * v2_ ∧ (48 * v1_) * v2_ ≤ 27648 from by have e := mul_bd (A := 1152) (B := 24) (b0 := 1) (show 0 ≤ 48 * v1_ ∧ 48 * v1_ ≤ 1152 from ⟨by omega, by omega⟩) ⟨bv2_1, bv2_2⟩; omega
  rw [hP3_] at bP3_
  obtain ⟨bP3_, bP3_'⟩ := bP3_
  have wP3_ : IntKind.i64.wrap P3_ = P3_ := IntWalk.i64_in _ (by omega)
  go_wp2_with fail
  refine (countOrders_at (n : Int) n _ (by omega) (by omega)).mono ?_
  rintro e w' ⟨he, rfl⟩
  obtain ⟨v4_, hv4_⟩ : ∃ v, fac n = v := ⟨_, rfl⟩
  rw [hv4_] at he
  subst he
  have bv4_ : 1 ≤ v4_ ∧ v4_ ≤ 24 := by rw [← hv4_]; exact fac_bd (by omega)
  obtain ⟨bv4_1, bv4_2⟩ := bv4_
  have Hv4_ := Lib.hid hv4_
  clear hv4_
  have hd1 := Int.ediv_nonneg (show 0 ≤ P3_ by omega) (show 0 ≤ v4_ by omega)
  have hd2 := Int.ediv_le_self v4_ (show 0 ≤ P3_ by omega)
  have hq : IntKind.i64.wrap (P3_.tdiv v4_) = P3_ / v4_ := by rw [Int.tdiv_eq_ediv_of_nonneg (by omega)]; exact IntWalk.i64_in _ (by omega)
  have hz1 : (v4_ == 0) = false := by simp only [beq_eq_false_iff_ne]; omega
  have hz2 : (v4_ = 0) = False := eq_false (by omega)
  go_wp2
  go_ret
  exact ⟨ret_int (by rw [← ordPart_of (by omega) (by omega), Hv1_.out, Hv2_.out, Hv4_.out, hP3_]), rfl⟩

theorem implWorth_at (E : Int) (A : Option Addr) (c : Nat) (xs : List Int) (s : Nat) (x : Int) (w : World) (lo hi : Nat) (h : Ints w lo hi A xs) (hh : hi ≤ w.heap.size) (hok : caseOkB E xs = true) {p : Nat} (hp : 2 ^ xs.length = p) (hs : s < p) (hx : x = (s : Int)) :
    Calls Try.prog 73 #[.agg #[.int .i64 E, .slice A xs.length c], .int .i64 x] w (fun e w' => e = .returned (.int .i64 (worth E xs (s : Int))) ∧ Below w.heap.size w w') := by
  subst hx; exact implWorth_in E A c xs s w lo hi h hh hok hp hs
theorem or_lt {m k n p : Nat} (hp : 2 ^ n = p) (hm : (m : Int) < (p : Int)) (hk : k < n) : m ||| 2 ^ k < p := by
  subst hp
  exact Nat.or_lt_two_pow (by exact_mod_cast hm) (Nat.pow_lt_pow_right (by omega) hk)
theorem cast_pow {n p : Nat} (hp : 2 ^ n = p) : (p : Int) = 2 ^ n := by subst hp; simp

set_option maxRecDepth 10000 in
set_option maxHeartbeats 1000000 in
theorem implBringsOf_nat (E : Int) (A : Option Addr) (c : Nat) (xs : List Int) (k m : Nat) (w : World) (lo hi : Nat) (h : Ints w lo hi A xs) (hh : hi ≤ w.heap.size) (hl : xs.length ≤ 1152921504606846976) :
    Calls Try.prog 30 #[.agg #[.int .i64 E, .slice A xs.length c], .int .i64 (k : Int), .int .i64 (m : Int)] w fun e w' => e = .returned (.int .i64 (bringsOf E xs (k : Int) (m : Int))) ∧ Below w.heap.size w w' := by
  go_enter Try.func30, Try.ntmps30
  have o1_ := h.alloc (by first | omega | (simp; omega) | simp) (.cells #[.int .i64 E, .slice A xs.length c] 25)
  have B2_ := (Below.refl w.heap.size w).alloc (Nat.le_refl _) (.cells #[.int .i64 E, .slice A xs.length c] 25)
  have a3_ : (w.alloc (.cells #[.int .i64 E, .slice A xs.length c] 25)).cell? ⟨w.heap.size, 0, none⟩ = some (.int .i64 E) := by simp [go_sem]
  have a4_ : (w.alloc (.cells #[.int .i64 E, .slice A xs.length c] 25)).cell? ⟨w.heap.size, 1, none⟩ = some (.slice A xs.length c) := by simp [go_sem]
  by_cases h5_ : caseOkB E xs = true
  · have H5_ := Lib.hid h5_
    clear h5_
    have hbd := caseOk_bd H5_.out
    have HV := Lib.hid (fun k hk => case_getD H5_.out k hk)
    have HCB := Lib.hid H5_.out
    obtain ⟨p, hp⟩ : ∃ p : Nat, 2 ^ xs.length = p := ⟨_, rfl⟩
    have hpb := pow_bd3 hp hbd.2.1
    obtain ⟨hp1, hp2⟩ := hpb
    have HP := Lib.hid hp
    clear hp
    go_wp2_with fail
    refine (implCaseOk_any E A c xs _ _ _ o1_ (by first | omega | (simp; omega) | simp) hl).mono ?_
    rintro e w6 ⟨he, hb6_⟩
    rw [H5_.out] at he
    subst he
    have o7_ := o1_.below hb6_ (by first | omega | (simp; omega) | simp)
    have o8_ := (hb6_.cell (p := ⟨w.heap.size, 0, none⟩) (by first | omega | (simp; omega) | simp)).trans a3_
    have o9_ := (hb6_.cell (p := ⟨w.heap.size, 1, none⟩) (by first | omega | (simp; omega) | simp)).trans a4_
    have z10_ := hb6_.size
    try simp at z10_
    have B11_ := B2_.trans (hb6_.mono (by first | omega | (simp; omega) | simp))
    clear hb6_
    have h12_ : ¬ ((k : Int) < 0) := by omega
    have h12_d : decide ((k : Int) < 0) = false := decide_eq_false h12_
    by_cases h13_ : (k : Int) ≥ (xs.length : Int)
    · have h13_d : decide ((k : Int) ≥ (xs.length : Int)) = true := decide_eq_true h13_
      go_wp2
      go_ret
      exact ⟨ret_int (by rw [bringsOf, if_neg (fun h => by have e := h.2.1; omega)]), B11_⟩
    · have h13_d : decide ((k : Int) ≥ (xs.length : Int)) = false := decide_eq_false h13_
      by_cases h14_ : 0 ≤ (m : Int) ∧ (m : Int) < (p : Int)
      · have H14_ := Lib.hid h14_
        clear h14_
        obtain ⟨H14_a, H14_b⟩ := H14_.out
        have hpin := pow_in (k := k) (n := xs.length) (by omega) (by omega)
        obtain ⟨hpi1, hpi2, hpi3⟩ := hpin
        have hdv : 0 ≤ (m : Int) / 2 ^ k := Int.ediv_nonneg (by omega) (by omega)
        go_wp2_with fail
        refine (isSet_yes (m : Int) xs.length p _ (by omega) HP.out H14_.out).mono ?_
        rintro e w' ⟨rfl, rfl⟩
        by_cases h15_ : (m : Int) / 2 ^ k % 2 = 1
        · have H15_ := Lib.hid h15_
          clear h15_
          go_wp2_with fail
          refine (isWithin_yes k (m : Int) _ (by omega) (by omega) (by omega) H15_.out).mono ?_
          rintro e w' ⟨rfl, rfl⟩
          go_wp2
          go_ret
          exact ⟨ret_int (by rw [bringsOf, if_neg (fun h => h.2.2.2 (by rw [Int.toNat_natCast]; exact H15_.out))]), B11_⟩
        · have H15_ := Lib.hid h15_
          clear h15_
          go_wp2_with fail
          refine (isWithin_no k (m : Int) _ (by omega) (by omega) (by omega) H15_.out).mono ?_
          rintro e w' ⟨rfl, rfl⟩
          obtain ⟨B16_, hB16_⟩ : ∃ B, bits .or .i64 (m : Int) (2 ^ k) = B := ⟨_, rfl⟩
          have qB16_ : B16_ = ((m ||| 2 ^ k : Nat) : Int) := by rw [← hB16_]; exact or_is (n := xs.length) (by rw [← cast_pow HP.out]; omega) (by omega) (by omega)
          have QB16_ := Lib.hid qB16_
          have nB16_ : 0 ≤ B16_ := by omega
          clear qB16_
          have HOR := Lib.hid (or_lt (m := m) (k := k) HP.out (by omega) (by omega))
          obtain ⟨v17_, hv17_⟩ : ∃ v, worth E xs ((m ||| 2 ^ k : Nat) : Int) = v := ⟨_, rfl⟩
          have bv17_ : 0 ≤ v17_ ∧ v17_ ≤ 48 := by rw [← hv17_]; exact worth_bd HCB.out _
          obtain ⟨bv17_1, bv17_2⟩ := bv17_
          have Hv17_ := Lib.hid hv17_
          clear hv17_
          obtain ⟨v18_, hv18_⟩ : ∃ v, worth E xs (m : Int) = v := ⟨_, rfl⟩
          have bv18_ : 0 ≤ v18_ ∧ v18_ ≤ 48 := by rw [← hv18_]; exact worth_bd HCB.out _
          obtain ⟨bv18_1, bv18_2⟩ := bv18_
          have Hv18_ := Lib.hid hv18_
          clear hv18_
          have hw19_ : IntKind.i64.wrap (2 ^ k) = (2 ^ k) := IntWalk.i64_in _ (by omega)
          have hw20_ : IntKind.i64.wrap (v17_ - v18_) = (v17_ - v18_) := IntWalk.i64_in _ (by omega)
          have g24_ : w.heap.size < w6.heap.size := (by first | omega | (simp; omega) | simp)
          have g25_ : hi ≤ w6.heap.size := (by first | omega | (simp; omega) | simp)
          have g26_ : w.heap.size ≤ w6.heap.size := (by first | omega | (simp; omega) | simp)
          go_wp2_with fail
          refine wp_region_held_drew (S := (fun w' : World => Below w.heap.size w w' ∧ w6.heap.size ≤ w'.heap.size ∧ Ints w' (lo) (hi) A xs ∧ w'.cell? ⟨w.heap.size, 0, none⟩ = some (.int .i64 E) ∧ w'.cell? ⟨w.heap.size, 1, none⟩ = some (.slice A xs.length c) ∧ w6.heap.size ≤ w'.heap.size)) (by kernel_rfl) ⟨B11_.drew, by exact (by first | omega | (simp; omega) | simp), o7_, o8_, o9_, Nat.le_refl _⟩ (fun hHeld => ?_)
          refine wpAnyH_take (i := 0) (oi := ?oi1) (v := ?vv1) ?hi1 ?hs1 ?hf1 ?ha1 ?hq1 ?hy1 hHeld ?hr1
          case hi1 => (simp only [List.getElem?_toArray, List.getElem?_cons_zero]; exact rfl)
          case hs1 => kernel_rfl
          case hf1 => kernel_rfl
          case ha1 => kernel_rfl
          case hq1 => exact fun _ _ _ h => h
          case hy1 =>
            refine Or.inl ⟨by rfl, ?_⟩
            intro w' hSw
            try dsimp only at hSw
            go_simp
            first | done | with_reducible rfl
          simp only [Act.put, List.setIfInBounds_toArray, List.set_cons_succ, List.set_cons_zero]
          refine wpAnyH_take (i := 1) (oi := ?oi2) (v := ?vv2) ?hi2 ?hs2 ?hf2 ?ha2 ?hq2 ?hy2 hHeld ?hr2
          case hi2 => (simp only [List.getElem?_toArray, List.getElem?_cons_succ, List.getElem?_cons_zero]; exact rfl)
          case hs2 => kernel_rfl
          case hf2 => kernel_rfl
          case ha2 => kernel_rfl
          case hq2 => exact fun _ _ _ h => h
          case hy2 =>
            refine Or.inl ⟨by rfl, ?_⟩
            intro w' hSw
            try dsimp only at hSw
            go_simp
            first | done | with_reducible rfl
          simp only [Act.put, List.setIfInBounds_toArray, List.set_cons_succ, List.set_cons_zero]
          refine wpAnyH_take (i := 2) (oi := ?oi3) (v := ?vv3) ?hi3 ?hs3 ?hf3 ?ha3 ?hq3 ?hy3 hHeld ?hr3
          case hi3 => (simp only [List.getElem?_toArray, List.getElem?_cons_succ, List.getElem?_cons_zero]; exact rfl)
          case hs3 => kernel_rfl
          case hf3 => kernel_rfl
          case ha3 => kernel_rfl
          case hq3 => exact fun _ _ _ h => h
          case hy3 =>
            refine Or.inl ⟨by rfl, ?_⟩
            intro w' hSw
            try dsimp only at hSw
            go_simp
            first | done | with_reducible rfl
          simp only [Act.put, List.setIfInBounds_toArray, List.set_cons_succ, List.set_cons_zero]
          refine wpAnyH_take (i := 3) (oi := ?oi4) (v := ?vv4) ?hi4 ?hs4 ?hf4 ?ha4 ?hq4 ?hy4 hHeld ?hr4
          case hi4 => (simp only [List.getElem?_toArray, List.getElem?_cons_succ, List.getElem?_cons_zero]; exact rfl)
          case hs4 => kernel_rfl
          case hf4 => kernel_rfl
          case ha4 => kernel_rfl
          case hq4 => exact fun _ _ _ h => h
          case hy4 =>
            refine Or.inl ⟨by rfl, ?_⟩
            intro w' hSw
            try dsimp only at hSw
            go_simp
            first | done | with_reducible rfl
          simp only [Act.put, List.setIfInBounds_toArray, List.set_cons_succ, List.set_cons_zero]
          refine wpAnyH_take (i := 4) (oi := ?oi5) (v := ?vv5) ?hi5 ?hs5 ?hf5 ?ha5 ?hq5 ?hy5 hHeld ?hr5
          case hi5 => (simp only [List.getElem?_toArray, List.getElem?_cons_succ, List.getElem?_cons_zero]; exact rfl)
          case hs5 => kernel_rfl
          case hf5 => kernel_rfl
          case ha5 => kernel_rfl
          case hq5 => exact fun _ _ _ h => h
          case hy5 =>
            refine Or.inl ⟨by rfl, ?_⟩
            intro w' hSw
            try dsimp only at hSw
            go_simp
            first | done | with_reducible rfl
          simp only [Act.put, List.setIfInBounds_toArray, List.set_cons_succ, List.set_cons_zero]
          refine wpAnyH_take (i := 6) (oi := ?oi6) (v := ?vv6) ?hi6 ?hs6 ?hf6 ?ha6 ?hq6 ?hy6 hHeld ?hr6
          case hi6 => (simp only [List.getElem?_toArray, List.getElem?_cons_succ, List.getElem?_cons_zero]; exact rfl)
          case hs6 => kernel_rfl
          case hf6 => kernel_rfl
          case ha6 => kernel_rfl
          case hq6 => exact fun _ _ _ h => h
          case hy6 =>
            refine Or.inl ⟨by rfl, ?_⟩
            intro w' hSw
            try dsimp only at hSw
            go_simp
            first | done | with_reducible rfl
          simp only [Act.put, List.setIfInBounds_toArray, List.set_cons_succ, List.set_cons_zero]
          refine wpAnyH_take (i := 7) (oi := ?oi7) (v := ?vv7) ?hi7 ?hs7 ?hf7 ?ha7 ?hq7 ?hy7 hHeld ?hr7
          case hi7 => (simp only [List.getElem?_toArray, List.getElem?_cons_succ, List.getElem?_cons_zero]; exact rfl)
          case hs7 => kernel_rfl
          case hf7 => kernel_rfl
          case ha7 => kernel_rfl
          case hq7 => exact fun _ _ _ h => h
          case hy7 =>
            refine Or.inl ⟨by rfl, ?_⟩
            intro w' hSw
            try dsimp only at hSw
            go_simp
            first | done | with_reducible rfl
          simp only [Act.put, List.setIfInBounds_toArray, List.set_cons_succ, List.set_cons_zero]
          refine wpAnyH_ready (rs := [5]) (by kernel_rfl) (by simp) ?_
          refine AllReadyH.cons rfl (fun K hK => ?_) AllReadyH.nil
          go_simp
          go_at_call 73
          obtain ⟨BB, zz, k21_, k22_, k23_, zw⟩ := hHeld
          (with_reducible refine (below_is (implWorth_at E A c xs (m ||| 2 ^ k) B16_ _ _ _ k21_ (by first | omega | (simp; omega) | simp) HCB.out HP.out HOR.out QB16_.out) (congrArg (Value.int .i64) Hv17_.out)).mono ?_)
          rintro e w27 ⟨rfl, hb9⟩
          refine hK.out _ _ ⟨BB.trans (hb9.mono (by omega)), Nat.le_trans zz hb9.size, k21_.below hb9 (by first | omega | (simp; omega) | simp), (hb9.cell (p := ⟨w.heap.size, 0, none⟩) (by first | omega | (simp; omega) | simp)).trans k22_, (hb9.cell (p := ⟨w.heap.size, 1, none⟩) (by first | omega | (simp; omega) | simp)).trans k23_, Nat.le_trans zw hb9.size⟩ (fun hHeld => ?_)
          clear hb9 zw k23_ k22_ k21_ zz BB
          clear hK K
          try simp only [Act.put, List.setIfInBounds_toArray, List.set_cons_zero, List.set_cons_succ]
          refine wpAnyH_ready (rs := [8]) (by kernel_rfl) (by simp) ?_
          refine AllReadyH.cons rfl (fun K hK => ?_) AllReadyH.nil
          go_simp
          go_at_call 73
          obtain ⟨BB, zz, k21_, k22_, k23_, zw⟩ := hHeld
          (with_reducible refine (below_is (implWorth_in E A c xs m _ _ _ k21_ (by first | omega | (simp; omega) | simp) HCB.out HP.out (by omega)) (congrArg (Value.int .i64) Hv18_.out)).mono ?_)
          rintro e w28 ⟨rfl, hb9⟩
          refine hK.out _ _ ⟨BB.trans (hb9.mono (by omega)), Nat.le_trans zz hb9.size, k21_.below hb9 (by first | omega | (simp; omega) | simp), (hb9.cell (p := ⟨w.heap.size, 0, none⟩) (by first | omega | (simp; omega) | simp)).trans k22_, (hb9.cell (p := ⟨w.heap.size, 1, none⟩) (by first | omega | (simp; omega) | simp)).trans k23_, Nat.le_trans zw hb9.size⟩ (fun hHeld => ?_)
          clear hb9 zw k23_ k22_ k21_ zz BB
          clear hK K
          try simp only [Act.put, List.setIfInBounds_toArray, List.set_cons_zero, List.set_cons_succ]
          refine wpAnyH_take (i := 9) (oi := ?oi8) (v := ?vv8) ?hi8 ?hs8 ?hf8 ?ha8 ?hq8 ?hy8 hHeld ?hr8
          case hi8 => (simp only [List.getElem?_toArray, List.getElem?_cons_succ, List.getElem?_cons_zero]; exact rfl)
          case hs8 => kernel_rfl
          case hf8 => kernel_rfl
          case ha8 => kernel_rfl
          case hq8 => exact fun _ _ _ h => h
          case hy8 =>
            refine Or.inl ⟨by rfl, ?_⟩
            intro w' hSw
            try dsimp only at hSw
            go_simp
            first | done | with_reducible rfl
          simp only [Act.put, List.setIfInBounds_toArray, List.set_cons_succ, List.set_cons_zero]
          refine wpAnyH_take (i := 10) (oi := ?oi9) (v := ?vv9) ?hi9 ?hs9 ?hf9 ?ha9 ?hq9 ?hy9 hHeld ?hr9
          case hi9 => (simp only [List.getElem?_toArray, List.getElem?_cons_succ, List.getElem?_cons_zero]; exact rfl)
          case hs9 => kernel_rfl
          case hf9 => kernel_rfl
          case ha9 => kernel_rfl
          case hq9 => exact fun _ _ _ h => h
          case hy9 =>
            refine Or.inl ⟨by rfl, ?_⟩
            intro w' hSw
            try dsimp only at hSw
            go_simp
            first | done | with_reducible rfl
          simp only [Act.put, List.setIfInBounds_toArray, List.set_cons_succ, List.set_cons_zero]
          refine wpAnyH_done (by kernel_rfl) ?_ _
          obtain ⟨BB, zz, k21_, k22_, k23_, zw⟩ := hHeld
          clear hw19_ hw20_
          have k29_ := BB
          clear BB
          have k30_ := zz
          clear zz
          have k31_ := zw
          clear zw
          have hfin : bringsOf E xs (k : Int) (m : Int) = v17_ - v18_ := by rw [bringsOf, if_pos ⟨HCB.out, ⟨by omega, by omega⟩, ⟨by omega, by rw [← cast_pow HP.out]; omega⟩, by rw [Int.toNat_natCast]; exact H15_.out⟩, Int.toNat_natCast, Int.toNat_natCast, Hv17_.out, Hv18_.out]
          have HFIN := Lib.hid hfin
          clear hfin
          go_wp2
          go_ret
          exact ⟨ret_int HFIN.out.symm, k29_⟩
      · have H14_ := Lib.hid h14_
        clear h14_
        go_wp2_with fail
        refine (isSet_no (m : Int) xs.length p _ (by omega) HP.out H14_.out).mono ?_
        rintro e w' ⟨rfl, rfl⟩
        go_wp2
        go_ret
        exact ⟨ret_int (by rw [bringsOf, if_neg (fun h => H14_.out (by have e := h.2.2.1.2; rw [← cast_pow HP.out] at e; exact ⟨h.2.2.1.1, by omega⟩))]), B11_⟩
  · have H5_ : Hid (caseOkB E xs = false) := by show _ = _; simpa using h5_
    clear h5_
    go_wp2_with fail
    refine (implCaseOk_any E A c xs _ _ _ o1_ (by first | omega | (simp; omega) | simp) hl).mono ?_
    rintro e w6 ⟨he, hb6_⟩
    rw [H5_.out] at he
    subst he
    have o7_ := o1_.below hb6_ (by first | omega | (simp; omega) | simp)
    have o8_ := (hb6_.cell (p := ⟨w.heap.size, 0, none⟩) (by first | omega | (simp; omega) | simp)).trans a3_
    have o9_ := (hb6_.cell (p := ⟨w.heap.size, 1, none⟩) (by first | omega | (simp; omega) | simp)).trans a4_
    have z10_ := hb6_.size
    try simp at z10_
    have B11_ := B2_.trans (hb6_.mono (by first | omega | (simp; omega) | simp))
    clear hb6_
    go_wp2
    go_ret
    exact ⟨ret_int (by rw [bringsOf, if_neg (fun h => by have e := h.1; rw [H5_.out] at e; cases e)]), B11_⟩

set_option maxRecDepth 10000 in
set_option maxHeartbeats 400000 in
theorem implBringsOf_negP (E : Int) (A : Option Addr) (c : Nat) (xs : List Int) (p_ s : Int) (w : World) (lo hi : Nat) (h : Ints w lo hi A xs) (hh : hi ≤ w.heap.size) (hl : xs.length ≤ 1152921504606846976) (hp_ : p_ < 0) :
    Calls Try.prog 30 #[.agg #[.int .i64 E, .slice A xs.length c], .int .i64 p_, .int .i64 s] w fun e w' => e = .returned (.int .i64 (bringsOf E xs p_ s)) ∧ Below w.heap.size w w' := by
  go_enter Try.func30, Try.ntmps30
  have o1_ := h.alloc (by first | omega | (simp; omega) | simp) (.cells #[.int .i64 E, .slice A xs.length c] 25)
  have B2_ := (Below.refl w.heap.size w).alloc (Nat.le_refl _) (.cells #[.int .i64 E, .slice A xs.length c] 25)
  have a3_ : (w.alloc (.cells #[.int .i64 E, .slice A xs.length c] 25)).cell? ⟨w.heap.size, 0, none⟩ = some (.int .i64 E) := by simp [go_sem]
  have a4_ : (w.alloc (.cells #[.int .i64 E, .slice A xs.length c] 25)).cell? ⟨w.heap.size, 1, none⟩ = some (.slice A xs.length c) := by simp [go_sem]
  by_cases h5_ : caseOkB E xs = true
  · have H5_ := Lib.hid h5_
    clear h5_
    have hbd := caseOk_bd H5_.out
    have HV := Lib.hid (fun k hk => case_getD H5_.out k hk)
    have HCB := Lib.hid H5_.out
    obtain ⟨p, hp⟩ : ∃ p : Nat, 2 ^ xs.length = p := ⟨_, rfl⟩
    have hpb := pow_bd3 hp hbd.2.1
    obtain ⟨hp1, hp2⟩ := hpb
    have HP := Lib.hid hp
    clear hp
    go_wp2_with fail
    refine (implCaseOk_any E A c xs _ _ _ o1_ (by first | omega | (simp; omega) | simp) hl).mono ?_
    rintro e w6 ⟨he, hb6_⟩
    rw [H5_.out] at he
    subst he
    have o7_ := o1_.below hb6_ (by first | omega | (simp; omega) | simp)
    have o8_ := (hb6_.cell (p := ⟨w.heap.size, 0, none⟩) (by first | omega | (simp; omega) | simp)).trans a3_
    have o9_ := (hb6_.cell (p := ⟨w.heap.size, 1, none⟩) (by first | omega | (simp; omega) | simp)).trans a4_
    have z10_ := hb6_.size
    try simp at z10_
    have B11_ := B2_.trans (hb6_.mono (by first | omega | (simp; omega) | simp))
    clear hb6_
    have h12_ : p_ < 0 := hp_
    have h12_d : decide (p_ < 0) = true := decide_eq_true h12_
    go_wp2
    go_ret
    exact ⟨ret_int (by rw [bringsOf, if_neg (fun h => by have e := h.2.1; omega)]), B11_⟩
  · have H5_ : Hid (caseOkB E xs = false) := by show _ = _; simpa using h5_
    clear h5_
    go_wp2_with fail
    refine (implCaseOk_any E A c xs _ _ _ o1_ (by first | omega | (simp; omega) | simp) hl).mono ?_
    rintro e w6 ⟨he, hb6_⟩
    rw [H5_.out] at he
    subst he
    have o7_ := o1_.below hb6_ (by first | omega | (simp; omega) | simp)
    have o8_ := (hb6_.cell (p := ⟨w.heap.size, 0, none⟩) (by first | omega | (simp; omega) | simp)).trans a3_
    have o9_ := (hb6_.cell (p := ⟨w.heap.size, 1, none⟩) (by first | omega | (simp; omega) | simp)).trans a4_
    have z10_ := hb6_.size
    try simp at z10_
    have B11_ := B2_.trans (hb6_.mono (by first | omega | (simp; omega) | simp))
    clear hb6_
    go_wp2
    go_ret
    exact ⟨ret_int (by rw [bringsOf, if_neg (fun h => by have e := h.1; rw [H5_.out] at e; cases e)]), B11_⟩

set_option maxRecDepth 10000 in
set_option maxHeartbeats 400000 in
theorem implBringsOf_negS (E : Int) (A : Option Addr) (c : Nat) (xs : List Int) (k : Nat) (s : Int) (w : World) (lo hi : Nat) (h : Ints w lo hi A xs) (hh : hi ≤ w.heap.size) (hl : xs.length ≤ 1152921504606846976) (hs : s < 0) :
    Calls Try.prog 30 #[.agg #[.int .i64 E, .slice A xs.length c], .int .i64 (k : Int), .int .i64 s] w fun e w' => e = .returned (.int .i64 (bringsOf E xs (k : Int) s)) ∧ Below w.heap.size w w' := by
  go_enter Try.func30, Try.ntmps30
  have o1_ := h.alloc (by first | omega | (simp; omega) | simp) (.cells #[.int .i64 E, .slice A xs.length c] 25)
  have B2_ := (Below.refl w.heap.size w).alloc (Nat.le_refl _) (.cells #[.int .i64 E, .slice A xs.length c] 25)
  have a3_ : (w.alloc (.cells #[.int .i64 E, .slice A xs.length c] 25)).cell? ⟨w.heap.size, 0, none⟩ = some (.int .i64 E) := by simp [go_sem]
  have a4_ : (w.alloc (.cells #[.int .i64 E, .slice A xs.length c] 25)).cell? ⟨w.heap.size, 1, none⟩ = some (.slice A xs.length c) := by simp [go_sem]
  by_cases h5_ : caseOkB E xs = true
  · have H5_ := Lib.hid h5_
    clear h5_
    have hbd := caseOk_bd H5_.out
    have HV := Lib.hid (fun k hk => case_getD H5_.out k hk)
    have HCB := Lib.hid H5_.out
    obtain ⟨p, hp⟩ : ∃ p : Nat, 2 ^ xs.length = p := ⟨_, rfl⟩
    have hpb := pow_bd3 hp hbd.2.1
    obtain ⟨hp1, hp2⟩ := hpb
    have HP := Lib.hid hp
    clear hp
    go_wp2_with fail
    refine (implCaseOk_any E A c xs _ _ _ o1_ (by first | omega | (simp; omega) | simp) hl).mono ?_
    rintro e w6 ⟨he, hb6_⟩
    rw [H5_.out] at he
    subst he
    have o7_ := o1_.below hb6_ (by first | omega | (simp; omega) | simp)
    have o8_ := (hb6_.cell (p := ⟨w.heap.size, 0, none⟩) (by first | omega | (simp; omega) | simp)).trans a3_
    have o9_ := (hb6_.cell (p := ⟨w.heap.size, 1, none⟩) (by first | omega | (simp; omega) | simp)).trans a4_
    have z10_ := hb6_.size
    try simp at z10_
    have B11_ := B2_.trans (hb6_.mono (by first | omega | (simp; omega) | simp))
    clear hb6_
    have h12_ : ¬ ((k : Int) < 0) := by omega
    have h12_d : decide ((k : Int) < 0) = false := decide_eq_false h12_
    by_cases h13_ : (k : Int) ≥ (xs.length : Int)
    · have h13_d : decide ((k : Int) ≥ (xs.length : Int)) = true := decide_eq_true h13_
      go_wp2
      go_ret
      exact ⟨ret_int (by rw [bringsOf, if_neg (fun h => by have e := h.2.1; have e2 := h.2.2.1; omega)]), B11_⟩
    · have h13_d : decide ((k : Int) ≥ (xs.length : Int)) = false := decide_eq_false h13_
      have H14_ : Hid (¬ (0 ≤ s ∧ s < (p : Int))) := by show ¬ (_ ∧ _); omega
      go_wp2_with fail
      refine (isSet_no s xs.length p _ (by omega) HP.out H14_.out).mono ?_
      rintro e w' ⟨rfl, rfl⟩
      go_wp2
      go_ret
      exact ⟨ret_int (by rw [bringsOf, if_neg (fun h => by have e := h.2.1; have e2 := h.2.2.1; omega)]), B11_⟩
  · have H5_ : Hid (caseOkB E xs = false) := by show _ = _; simpa using h5_
    clear h5_
    go_wp2_with fail
    refine (implCaseOk_any E A c xs _ _ _ o1_ (by first | omega | (simp; omega) | simp) hl).mono ?_
    rintro e w6 ⟨he, hb6_⟩
    rw [H5_.out] at he
    subst he
    have o7_ := o1_.below hb6_ (by first | omega | (simp; omega) | simp)
    have o8_ := (hb6_.cell (p := ⟨w.heap.size, 0, none⟩) (by first | omega | (simp; omega) | simp)).trans a3_
    have o9_ := (hb6_.cell (p := ⟨w.heap.size, 1, none⟩) (by first | omega | (simp; omega) | simp)).trans a4_
    have z10_ := hb6_.size
    try simp at z10_
    have B11_ := B2_.trans (hb6_.mono (by first | omega | (simp; omega) | simp))
    clear hb6_
    go_wp2
    go_ret
    exact ⟨ret_int (by rw [bringsOf, if_neg (fun h => by have e := h.1; rw [H5_.out] at e; cases e)]), B11_⟩

theorem implBringsOf_any (E : Int) (A : Option Addr) (c : Nat) (xs : List Int) (p s : Int) (w : World) (lo hi : Nat) (h : Ints w lo hi A xs) (hh : hi ≤ w.heap.size) (hl : xs.length ≤ 1152921504606846976) :
    Calls Try.prog 30 #[.agg #[.int .i64 E, .slice A xs.length c], .int .i64 p, .int .i64 s] w fun e w' => e = .returned (.int .i64 (bringsOf E xs p s)) ∧ Below w.heap.size w w' := by
  rcases Int.lt_or_le p 0 with hp | hp
  · exact implBringsOf_negP E A c xs p s w lo hi h hh hl hp
  · obtain ⟨k, rfl⟩ : ∃ k : Nat, p = (k : Int) := ⟨p.toNat, by omega⟩
    rcases Int.lt_or_le s 0 with hs | hs
    · exact implBringsOf_negS E A c xs k s w lo hi h hh hl hs
    · obtain ⟨m, rfl⟩ : ∃ m : Nat, s = (m : Int) := ⟨s.toNat, by omega⟩
      exact implBringsOf_nat E A c xs k m w lo hi h hh hl
theorem implBrings_in (E : Int) (A : Option Addr) (c : Nat) (xs : List Int) (k m : Nat) (w : World) (lo hi : Nat) (h : Ints w lo hi A xs) (hh : hi ≤ w.heap.size) (hok : caseOkB E xs = true) (hk : k < xs.length) (hm : m < 2 ^ xs.length) (hb : m.testBit k = false) :
    Calls Try.prog 30 #[.agg #[.int .i64 E, .slice A xs.length c], .int .i64 (k : Int), .int .i64 (m : Int)] w fun e w' => e = .returned (.int .i64 (worth E xs (m ||| 2 ^ k : Nat) - worth E xs m)) ∧ Below w.heap.size w w' := by
  have e := implBringsOf_any E A c xs k m w lo hi h hh (by have e := caseOk_bd hok; omega)
  rwa [bringsOf_is hok hk hm hb] at e

/-- The share of i by the sets below m. -/
def shTo (E : Int) (xs : List Int) (m i : Nat) : Int := 48 / fac xs.length * gSum E xs i m
theorem shTo_zero (E : Int) (xs : List Int) (i : Nat) : shTo E xs 0 i = 0 := by simp [shTo, gSum]
theorem shTo_all {E : Int} {xs : List Int} (h : caseOkB E xs = true) {p : Nat} (hp : 2 ^ xs.length = p) {i : Nat} (hi : i < xs.length) : shTo E xs p i = arrAt E xs i := by
  have hb := caseOk_bd h
  have e := gSum_arr h hi
  have f := (part_fac (n := xs.length) (by omega) (by omega)).2
  have g := fac_pos xs.length
  subst hp
  rw [← e]
  unfold shTo
  generalize 48 / fac xs.length = q at *
  rw [← f, show gSum E xs i (2 ^ xs.length) * (q * fac xs.length) = fac xs.length * (q * gSum E xs i (2 ^ xs.length)) from by rw [Int.mul_comm (gSum _ _ _ _), Int.mul_comm q, Int.mul_assoc]]
  rw [Int.mul_ediv_cancel_left _ (by omega)]
theorem shTo_rg {E : Int} {xs : List Int} (h : caseOkB E xs = true) {i : Nat} (hi : i < xs.length) {m : Nat} (hm : m ≤ 17) : 0 ≤ shTo E xs m i ∧ shTo E xs m i ≤ 48 * (27648 * 17) := by
  have hb := caseOk_bd h
  have e := gSum_bd h hi m
  have e1 := (part_fac (n := xs.length) (by omega) (by omega)).1
  have e3 : 48 / fac xs.length ≤ 48 := by have p := fac_bd (n := xs.length) (by omega); exact Int.ediv_le_self _ (by omega)
  unfold shTo
  generalize 48 / fac xs.length = q at *
  exact mul_bd (A := 48) (B := 27648 * 17) (b0 := 0) ⟨by omega, e3⟩ ⟨e.1, by omega⟩
theorem mid7_rg {E : Int} {xs : List Int} (h : caseOkB E xs = true) {m j k : Nat} (hm : m < 16) (hk : k < xs.length) : 0 ≤ (fnRow xs.length (fun i => if i < j then shTo E xs (m + 1) i else shTo E xs m i)).getD k 0 ∧ (fnRow xs.length (fun i => if i < j then shTo E xs (m + 1) i else shTo E xs m i)).getD k 0 ≤ 48 * (27648 * 17) := by
  rw [fnRow_getD _ hk]
  have e1 := shTo_rg h hk (m := m) (by omega)
  have e2 := shTo_rg h hk (m := m + 1) (by omega)
  split <;> omega
theorem mid7_same (E : Int) (xs : List Int) {m j : Nat} (hb : m.testBit j = true) : fnRow xs.length (fun i => if i < j then shTo E xs (m + 1) i else shTo E xs m i) = fnRow xs.length (fun i => if i < (j + 1) then shTo E xs (m + 1) i else shTo E xs m i) :=
  fnRow_congr fun i hi => by
    by_cases e : i = j
    · subst e
      rw [if_neg (by omega), if_pos (by omega)]
      unfold shTo; rw [gSum_succ, gTerm_yes hb, Int.add_zero]
    · by_cases e2 : i < j
      · rw [if_pos e2, if_pos (by omega)]
      · rw [if_neg e2, if_neg (by omega)]
theorem mid7_step {E : Int} {xs : List Int} {m j : Nat} (hj : j < xs.length) (hb : m.testBit j = false) {v a b P : Int} (hv : v = (fnRow xs.length (fun i => if i < j then shTo E xs (m + 1) i else shTo E xs m i)).getD j 0) (ha : worth E xs (m ||| 2 ^ j : Nat) - worth E xs m = a) (hq : ordPart xs.length (pop m xs.length) = b) (hP : a * b = P) :
    (fnRow xs.length (fun i => if i < j then shTo E xs (m + 1) i else shTo E xs m i)).set j (v + P) = fnRow xs.length (fun i => if i < (j + 1) then shTo E xs (m + 1) i else shTo E xs m i) := by
  refine fnRow_set (fun i _ hn => ?_) ?_
  · by_cases e2 : i < j
    · (try simp only []); rw [if_pos e2, if_pos (by omega)]
    · (try simp only []); rw [if_neg e2, if_neg (by omega)]
  · (try simp only [])
    rw [hv, fnRow_getD _ hj, if_neg (by omega), if_pos (by omega), ← hP, ← ha, ← hq]
    unfold shTo ordPart
    rw [gSum_succ, Int.mul_add]
    congr 1
    unfold gTerm
    rw [if_neg (by rw [hb]; simp)]
    generalize worth E xs (m ||| 2 ^ j : Nat) - worth E xs m = x
    generalize fac (pop m xs.length) = y
    generalize fac (xs.length - 1 - pop m xs.length) = z
    generalize 48 / fac xs.length = q
    rw [Int.mul_assoc q, Int.mul_left_comm x q, Int.mul_assoc x]

set_option maxRecDepth 10000 in
set_option maxHeartbeats 2000000 in
theorem implGameShares_yes (E : Int) (A : Option Addr) (c : Nat) (xs : List Int) (w : World) (lo hi : Nat) (h : Ints w lo hi A xs) (hh : hi ≤ w.heap.size) (hl : xs.length ≤ 1152921504606846976) (hok : caseOkB E xs = true) :
    Calls Try.prog 27 #[.agg #[.int .i64 E, .slice A xs.length c]] w (RetInts w (arrRow E xs)) := by
  have HCB := Lib.hid hok
  clear hok
  have hbd := caseOk_bd HCB.out
  obtain ⟨p, hp⟩ : ∃ p : Nat, 2 ^ xs.length = p := ⟨_, rfl⟩
  have hpb := pow_bd3 hp hbd.2.1
  obtain ⟨hp1, hp2⟩ := hpb
  have HP := Lib.hid hp
  clear hp
  go_enter Try.func27, Try.ntmps27
  have o1_ := h.alloc (by first | omega | (simp; omega) | simp) (.cells #[.int .i64 E, .slice A xs.length c] 25)
  have B2_ := (Below.refl w.heap.size w).alloc (Nat.le_refl _) (.cells #[.int .i64 E, .slice A xs.length c] 25)
  have a3_ : (w.alloc (.cells #[.int .i64 E, .slice A xs.length c] 25)).cell? ⟨w.heap.size, 0, none⟩ = some (.int .i64 E) := by simp [go_sem]
  have a4_ : (w.alloc (.cells #[.int .i64 E, .slice A xs.length c] 25)).cell? ⟨w.heap.size, 1, none⟩ = some (.slice A xs.length c) := by simp [go_sem]
  go_wp2_with fail
  refine (implCaseOk_any E A c xs _ _ _ o1_ (by first | omega | (simp; omega) | simp) hl).mono ?_
  rintro e w5 ⟨he, hb5_⟩
  rw [HCB.out] at he
  subst he
  have o6_ := o1_.below hb5_ (by first | omega | (simp; omega) | simp)
  have o7_ := (hb5_.cell (p := ⟨w.heap.size, 0, none⟩) (by first | omega | (simp; omega) | simp)).trans a3_
  have o8_ := (hb5_.cell (p := ⟨w.heap.size, 1, none⟩) (by first | omega | (simp; omega) | simp)).trans a4_
  have z9_ := hb5_.size
  try simp at z9_
  have B10_ := B2_.trans (hb5_.mono (by first | omega | (simp; omega) | simp))
  clear hb5_
  go_upto_region 5 with (at_make; (refine make_gr (by rfl) _ _ (by rfl) (n := xs.length) (x := (xs.length : Int)) (by omega) (by rfl) (by rfl) (by omega) ?_; intro w11 G11_ hb12_))
  have o14_ := o6_.below hb12_ (by first | omega | (simp; omega) | simp)
  have o15_ := (hb12_.cell (p := ⟨w.heap.size, 0, none⟩) (by first | omega | (simp; omega) | simp)).trans o7_
  have o16_ := (hb12_.cell (p := ⟨w.heap.size, 1, none⟩) (by first | omega | (simp; omega) | simp)).trans o8_
  have z17_ := hb12_.size
  have B18_ := B10_.trans (hb12_.mono (by first | omega | (simp; omega) | simp))
  clear hb12_
  have l19_ := G11_.lt
  have HL20_ : Hid ((List.replicate xs.length 0).length = xs.length) := List.length_replicate
  go_wp2_with fail
  refine (setsOf_is xs.length p _ (by omega) HP.out).mono ?_
  rintro e w' ⟨rfl, rfl⟩
  go_wp2
  go_loopw [17] (fun i wr => ∃ m : Nat, i = .int .i64 m ∧ (m ≤ p) ∧ Grow wr w5.heap.size xs.length (fnRow xs.length (shTo E xs m)) ∧ Below w.heap.size w wr ∧ w11.heap.size ≤ wr.heap.size ∧ Ints wr (lo) (hi) A xs ∧ wr.cell? ⟨w.heap.size, 0, none⟩ = some (.int .i64 E) ∧ wr.cell? ⟨w.heap.size, 1, none⟩ = some (.slice A xs.length c)) (fun i _ => p - (intOf i).toNat)
  case atStart => exact ⟨0, rfl, Nat.zero_le _, (by have e : fnRow xs.length (shTo E xs 0) = List.replicate xs.length 0 := (by rw [← fnRow_zero]; exact fnRow_congr fun i _ => shTo_zero E xs i); rw [e]; exact G11_), B18_, (by first | omega | (simp; omega) | simp), o14_, o15_, o16_⟩
  case round =>
    obtain ⟨m, rfl, hm, G22_, k23_, k24_, k25_, k26_, k27_⟩ := hrel
    obtain ⟨w21, rfl⟩ : ∃ x, x = wr := ⟨_, rfl⟩
    have HL28_ : Hid ((fnRow xs.length (shTo E xs m)).length = xs.length) := (fnRow_length _ _)
    have l29_ := G22_.lt
    by_cases hlt0 : m < p
    · have HMB : Hid (m < 2 ^ xs.length) := by show _ < _; rw [HP.out]; omega
      go_wp2
      go_loopw [21] (fun jj wr => ∃ j : Nat, jj = .int .i64 j ∧ (j ≤ xs.length) ∧ Grow wr w5.heap.size xs.length (fnRow xs.length (fun i => if i < j then shTo E xs (m + 1) i else shTo E xs m i)) ∧ Below w.heap.size w wr ∧ w21.heap.size ≤ wr.heap.size ∧ Ints wr (lo) (hi) A xs ∧ wr.cell? ⟨w.heap.size, 0, none⟩ = some (.int .i64 E) ∧ wr.cell? ⟨w.heap.size, 1, none⟩ = some (.slice A xs.length c)) (fun jj _ => xs.length - (intOf jj).toNat)
      case atStart => exact ⟨0, rfl, Nat.zero_le _, (by have e : fnRow xs.length (fun i => if i < 0 then shTo E xs (m + 1) i else shTo E xs m i) = fnRow xs.length (shTo E xs m) := fnRow_congr (fun i _ => if_neg (by omega)); rw [e]; exact G22_), k23_, (by first | omega | (simp; omega) | simp), k25_, k26_, k27_⟩
      case round =>
        obtain ⟨j, rfl, hj, G31_, k32_, k33_, k34_, k35_, k36_⟩ := hrel
        obtain ⟨w30, rfl⟩ : ∃ x, x = wr := ⟨_, rfl⟩
        have HL37_ : Hid ((fnRow xs.length (fun i => if i < j then shTo E xs (m + 1) i else shTo E xs m i)).length = xs.length) := (fnRow_length _ _)
        have l38_ := G31_.lt
        by_cases hlt2 : j < xs.length
        · by_cases h39_ : (m : Int) / 2 ^ j % 2 = 1
          · have H39_ := Lib.hid h39_
            clear h39_
            have HBY : Hid (m.testBit j = true) := (bit_nat m j).1 H39_.out
            go_wp2_with fail
            refine (isWithin_yes j (m : Int) _ (by omega) (by omega) (by omega) H39_.out).mono ?_
            rintro e w' ⟨rfl, rfl⟩
            go_wp2
            go_roundw
            case rel => exact ⟨j + 1, by go_num, by omega, (by rw [← mid7_same E xs HBY.out]; exact G31_), k32_, (by first | omega | (simp; omega) | simp), k34_, k35_, k36_⟩
            case measure => simp [intOf] <;> omega
          · have H39_ := Lib.hid h39_
            clear h39_
            have HBIT : Hid (m.testBit j = false) := by show _ = _; rcases Bool.eq_false_or_eq_true (m.testBit j) with e | e; exact absurd ((bit_nat m j).2 e) H39_.out; exact e
            have HPL : Hid (pop m xs.length + 1 ≤ xs.length) := pop_lt HBIT.out _ (by omega)
            go_wp2_with fail
            refine (isWithin_no j (m : Int) _ (by omega) (by omega) (by omega) H39_.out).mono ?_
            rintro e w' ⟨rfl, rfl⟩
            have c40_ : w30.cell? ⟨w5.heap.size, j, none⟩ = some (.int .i64 ((fnRow xs.length (fun i => if i < j then shTo E xs (m + 1) i else shTo E xs m i)).getD j 0)) := G31_.at_ j (by rw [fnRow_length]; omega)
            have c40_i : (j : Int) < (xs.length : Int) := by omega
            have c40_j : (0 : Int) ≤ (j : Int) := by omega
            have v41_g := mid7_rg HCB.out (m := m) (j := j) (by omega) (k := j) (by omega)
            obtain ⟨v41_, hv41_⟩ : ∃ v, v = (fnRow xs.length (fun i => if i < j then shTo E xs (m + 1) i else shTo E xs m i)).getD j 0 := ⟨_, rfl⟩
            rw [← hv41_] at c40_ v41_g
            have Hv41_ := Lib.hid hv41_
            clear hv41_
            obtain ⟨v41_g1, v41_g2⟩ := v41_g
            obtain ⟨v42_, hv42_⟩ : ∃ v, worth E xs (m ||| 2 ^ j : Nat) - worth E xs m = v := ⟨_, rfl⟩
            have bv42_ : 0 ≤ v42_ ∧ v42_ ≤ 48 := by rw [← hv42_]; exact brings_in HCB.out (by omega) HBIT.out
            obtain ⟨bv42_1, bv42_2⟩ := bv42_
            have Hv42_ := Lib.hid hv42_
            clear hv42_
            obtain ⟨v43_, hv43_⟩ : ∃ v, ordPart xs.length (pop m xs.length) = v := ⟨_, rfl⟩
            have bv43_ : 0 ≤ v43_ ∧ v43_ ≤ 27648 := by rw [← hv43_]; exact ordPart_rg (by omega) (by omega) HPL.out
            obtain ⟨bv43_1, bv43_2⟩ := bv43_
            have Hv43_ := Lib.hid hv43_
            clear hv43_
            obtain ⟨P44_, hP44_⟩ : ∃ P, v42_ * v43_ = P := ⟨_, rfl⟩
            have bP44_ := show 0 ≤ v42_ * v43_ ∧ v42_ * v43_ ≤ 1327104 from by have e := mul_bd (A := 48) (B := 27648) (b0 := 0) ⟨bv42_1, bv42_2⟩ ⟨bv43_1, bv43_2⟩; omega
            rw [hP44_] at bP44_
            obtain ⟨bP44_, bP44_'⟩ := bP44_
            have wP44_ : IntKind.i64.wrap P44_ = P44_ := IntWalk.i64_in _ (by omega)
            have hw45_ : IntKind.i64.wrap P44_ = P44_ := IntWalk.i64_in _ (by omega)
            have hw46_ : IntKind.i64.wrap (v41_ + P44_) = (v41_ + P44_) := IntWalk.i64_in _ (by omega)
            have c47_ := c40_
            have c47_f := G31_.soft j (by rw [fnRow_length]; omega)
            have c47_i : (j : Int) < (xs.length : Int) := by omega
            have c47_j : (0 : Int) ≤ (j : Int) := by omega
            have g48_ : w.heap.size < w30.heap.size := (by first | omega | (simp; omega) | simp)
            have g49_ : w5.heap.size < w30.heap.size := (by first | omega | (simp; omega) | simp)
            have d50_ : Ints (w30.drew) (lo) (hi) A xs := k34_
            have d51_ : Grow (w30.drew) w5.heap.size xs.length (fnRow xs.length (fun i => if i < j then shTo E xs (m + 1) i else shTo E xs m i)) := G31_
            have zd52_ : (w30.drew).heap.size = w30.heap.size := rfl
            go_wp2_with fail
            go_region_law (first | (go_simp; go_at_call 30; (with_reducible refine (below_is (implBrings_in E A c xs j m _ _ _ d50_ (by first | omega | (simp; omega) | simp) HCB.out (by omega) HMB.out HBIT.out) (congrArg (Value.int .i64) Hv42_.out)).mono ?_); rintro e w53 ⟨rfl, hb54_9⟩; have hb54_ : Below w30.heap.size w30 w53 := (Below.refl _ w30).drew.trans (hb54_9.mono (by exact Nat.le_refl _)); have c47_2 := (hb54_.cell (p := ⟨w5.heap.size, j, none⟩) (by show w5.heap.size < _; omega)).trans c47_; have o55_ := k34_.below hb54_ (by first | omega | (simp; omega) | simp); have o56_ := G31_.below hb54_ (by first | omega | (simp; omega) | simp); have o57_ := (hb54_.cell (p := ⟨w.heap.size, 0, none⟩) (by first | omega | (simp; omega) | simp)).trans k35_; have o58_ := (hb54_.cell (p := ⟨w.heap.size, 1, none⟩) (by first | omega | (simp; omega) | simp)).trans k36_; have c47_f2 := o56_.soft j (by rw [fnRow_length]; omega); have z59_ := hb54_.size; (try simp at z59_); have B60_ := k32_.trans (hb54_.mono (by first | omega | (simp; omega) | simp))) | (go_simp; go_at_call 70; (with_reducible refine (same_is (partsOf_any m xs.length (pop m xs.length) _ (by omega) (by omega) (by omega) HPL.out ⟨HMB.out, rfl⟩) (congrArg (Value.int .i64) Hv43_.out)).mono ?_); rintro e w9 ⟨rfl, rfl⟩))
            all_goals
              clear hw45_ hw46_
              obtain ⟨w61, hw61⟩ : ∃ x, x = w53.setCell ⟨w5.heap.size, j, none⟩ (.int .i64 (v41_ + P44_)) := ⟨_, rfl⟩
              rw [← hw61]
              have hC62_ : Chg w5.heap.size (w5.heap.size + 1) w53 w61 := by rw [hw61]; exact Chg.setCell (lo := w5.heap.size) (hi := w5.heap.size + 1) w53 (p := ⟨w5.heap.size, j, none⟩) ⟨Nat.le_refl _, Nat.lt_succ_self _⟩ (.int .i64 (v41_ + P44_))
              have G63_ : Grow w61 w5.heap.size xs.length ((fnRow xs.length (fun i => if i < j then shTo E xs (m + 1) i else shTo E xs m i)).set j (v41_ + P44_)) := by rw [hw61]; exact o56_.store j (v41_ + P44_)
              clear hw61
              have o64_ := o55_.chg hC62_ (by first | omega | (simp; omega) | simp) (by omega)
              have o65_ := (hC62_.cell (p := ⟨w.heap.size, 0, none⟩) (by first | omega | (simp; omega) | simp) (by first | omega | (simp; omega) | simp)).trans o57_
              have o66_ := (hC62_.cell (p := ⟨w.heap.size, 1, none⟩) (by first | omega | (simp; omega) | simp) (by first | omega | (simp; omega) | simp)).trans o58_
              have z67_ := hC62_.size
              have B68_ := B60_.trans (hC62_.below (by omega) (by first | omega | (simp; omega) | simp))
              clear hC62_
              have HL69_ : Hid (((fnRow xs.length (fun i => if i < j then shTo E xs (m + 1) i else shTo E xs m i)).set j (v41_ + P44_)).length = xs.length) := by show _ = _; rw [List.length_set]; first | rfl | omega | exact HL37_.out
              go_wp2
              go_roundw
              case rel => exact ⟨j + 1, by go_num, by omega, (by rw [← mid7_step (v := v41_) (a := v42_) (b := v43_) (P := P44_) (by omega) HBIT.out Hv41_.out Hv42_.out Hv43_.out hP44_]; exact G63_), B68_, (by first | omega | (simp; omega) | simp), o64_, o65_, o66_⟩
              case measure => simp [intOf] <;> omega
        · obtain rfl : j = xs.length := by omega
          go_wp2
          go_roundw
          case rel => exact ⟨m + 1, by go_num, by omega, (by have e : fnRow xs.length (shTo E xs (m + 1)) = fnRow xs.length (fun i => if i < xs.length then shTo E xs (m + 1) i else shTo E xs m i) := fnRow_congr (fun i hi => (if_pos hi).symm); rw [e]; exact G31_), k32_, (by first | omega | (simp; omega) | simp), k34_, k35_, k36_⟩
          case measure => simp [intOf] <;> omega
    · obtain rfl : m = p := by omega
      have hfin : arrRow E xs = fnRow xs.length (shTo E xs m) := by rw [arrRow, if_pos HCB.out, arr_fn]; exact fnRow_congr (fun i hi => (shTo_all HCB.out HP.out hi).symm)
      go_wp2
      go_ret
      rw [hfin]
      (refine retInts_grow G22_ (by omega) ?_ k23_; rw [fnRow_length])

set_option maxRecDepth 10000 in
set_option maxHeartbeats 2000000 in
theorem implGameShares_no (E : Int) (A : Option Addr) (c : Nat) (xs : List Int) (w : World) (lo hi : Nat) (h : Ints w lo hi A xs) (hh : hi ≤ w.heap.size) (hl : xs.length ≤ 1152921504606846976) (hok : caseOkB E xs = false) :
    Calls Try.prog 27 #[.agg #[.int .i64 E, .slice A xs.length c]] w (RetInts w (arrRow E xs)) := by
  have HCB := Lib.hid hok
  clear hok
  go_enter Try.func27, Try.ntmps27
  have o1_ := h.alloc (by first | omega | (simp; omega) | simp) (.cells #[.int .i64 E, .slice A xs.length c] 25)
  have B2_ := (Below.refl w.heap.size w).alloc (Nat.le_refl _) (.cells #[.int .i64 E, .slice A xs.length c] 25)
  have a3_ : (w.alloc (.cells #[.int .i64 E, .slice A xs.length c] 25)).cell? ⟨w.heap.size, 0, none⟩ = some (.int .i64 E) := by simp [go_sem]
  have a4_ : (w.alloc (.cells #[.int .i64 E, .slice A xs.length c] 25)).cell? ⟨w.heap.size, 1, none⟩ = some (.slice A xs.length c) := by simp [go_sem]
  go_wp2_with fail
  refine (implCaseOk_any E A c xs _ _ _ o1_ (by first | omega | (simp; omega) | simp) hl).mono ?_
  rintro e w5 ⟨he, hb5_⟩
  rw [HCB.out] at he
  subst he
  have o6_ := o1_.below hb5_ (by first | omega | (simp; omega) | simp)
  have o7_ := (hb5_.cell (p := ⟨w.heap.size, 0, none⟩) (by first | omega | (simp; omega) | simp)).trans a3_
  have o8_ := (hb5_.cell (p := ⟨w.heap.size, 1, none⟩) (by first | omega | (simp; omega) | simp)).trans a4_
  have z9_ := hb5_.size
  try simp at z9_
  have B10_ := B2_.trans (hb5_.mono (by first | omega | (simp; omega) | simp))
  clear hb5_
  go_wp2
  go_ret
  exact retInts_nil (by rw [arrRow, if_neg (by rw [HCB.out]; simp)]) B10_

theorem implGameShares_any (E : Int) (A : Option Addr) (c : Nat) (xs : List Int) (w : World) (lo hi : Nat) (h : Ints w lo hi A xs) (hh : hi ≤ w.heap.size) (hl : xs.length ≤ 1152921504606846976) :
    Calls Try.prog 27 #[.agg #[.int .i64 E, .slice A xs.length c]] w (RetInts w (arrRow E xs)) := by
  by_cases hok : caseOkB E xs = true
  · exact implGameShares_yes E A c xs w lo hi h hh hl hok
  · exact implGameShares_no E A c xs w lo hi h hh hl (by simpa using hok)


end Go.Proofs.Ytmkmipgboecdaaa
