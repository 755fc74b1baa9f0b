/-
  Chapter 6, the given package's functions: what a set is worth, the core, misses, orders of rows. Premises: lengths that fit.
-/
import Derived.Test.YthhcjomfpjopdaaGB
import Derived.Test.YthhcjomfpjopdaaGrow
import Derived.BigQuiet
import Derived.Deep.Cut
namespace Go.Proofs.Ythhcjomfpjopdaa
open Go.RowKit

/-- What the people outside a set claim, of the first k; and what those of a set have. -/
def outSum (xs : List Int) (s : Int) : Nat → Int
  | 0 => 0
  | k + 1 => outSum xs s k + (if s / 2 ^ k % 2 = 0 then xs.getD k 0 else 0)
def inSum (xs : List Int) (s : Int) : Nat → Int
  | 0 => 0
  | k + 1 => inSum xs s k + (if s / 2 ^ k % 2 = 1 then xs.getD k 0 else 0)
/-- What a set is worth. -/
def worth (E : Int) (xs : List Int) (s : Int) : Int := max (E - outSum xs s xs.length) 0
theorem part_bd (M : Int) (hM : 0 ≤ M) (xs : List Int) (f : Nat → Int) (hf : ∀ k, k < xs.length → (f (k + 1) = f k + xs.getD k 0 ∨ f (k + 1) = f k)) (h0 : f 0 = 0) (hx : ∀ k, k < xs.length → -M ≤ xs.getD k 0 ∧ xs.getD k 0 ≤ M) : ∀ k, k ≤ xs.length → -(M * k) ≤ f k ∧ f k ≤ M * k
  | 0, _ => by simp [h0]
  | k + 1, h => by
    have e := part_bd M hM xs f hf h0 hx k (by omega)
    have e1 := hx k (by omega)
    have e2 : M * ((k + 1 : Nat) : Int) = M * k + M := by rw [Int.natCast_add, Int.mul_add]; simp
    rw [e2]
    rcases hf k (by omega) with e3 | e3 <;> rw [e3] <;> omega
theorem pow_bd2 {n : Nat} (h : 1 ≤ n) : 2 ≤ (2 : Int) ^ n := by
  obtain ⟨m, rfl⟩ : ∃ m, n = m + 1 := ⟨n - 1, by omega⟩
  rw [Int.pow_succ]
  have e : 0 < (2 : Int) ^ m := Int.pow_pos (by omega)
  omega
theorem case_getD {E : Int} {xs : List Int} (h : caseOkB E xs = true) (k : Nat) (hk : k < xs.length) : -2400 ≤ xs.getD k 0 ∧ xs.getD k 0 ≤ 2400 := by
  rw [getD_of_lt xs k hk]; have e := case_at h k hk; omega
theorem pow_bd {n : Nat} (h : n ≤ 4) : 1 ≤ (2 : Int) ^ n ∧ (2 : Int) ^ n ≤ 16 := by
  rcases (show n = 0 ∨ n = 1 ∨ n = 2 ∨ n = 3 ∨ n = 4 from by omega) with rfl | rfl | rfl | rfl | rfl <;> simp
theorem outSum_bd {xs : List Int} (h4 : xs.length ≤ 5) (hx : ∀ k, k < xs.length → -2400 ≤ xs.getD k 0 ∧ xs.getD k 0 ≤ 2400) (s : Int) (k : Nat) (hk : k ≤ xs.length) : -12000 ≤ outSum xs s k ∧ outSum xs s k ≤ 12000 := by
  have e := part_bd 2400 (by omega) xs (outSum xs s) (fun k _ => by simp only [outSum]; split <;> simp) rfl hx k hk
  omega
theorem inSum_bd {xs : List Int} (h4 : xs.length ≤ 5) (hx : ∀ k, k < xs.length → -2400 ≤ xs.getD k 0 ∧ xs.getD k 0 ≤ 2400) (s : Int) (k : Nat) (hk : k ≤ xs.length) : -12000 ≤ inSum xs s k ∧ inSum xs s k ≤ 12000 := by
  have e := part_bd 2400 (by omega) xs (inSum xs s) (fun k _ => by simp only [inSum]; split <;> simp) rfl hx k hk
  omega


set_option maxRecDepth 10000 in
set_option maxHeartbeats 400000 in
theorem specWorth_any (E : Int) (A : Option Addr) (c : Nat) (xs : List Int) (s : Int) (w : World) (lo hi : Nat) (h : Ints w lo hi A xs) (hh : hi ≤ w.heap.size) (h4 : xs.length ≤ 5) (hE : -3000 ≤ E ∧ E ≤ 3000) (hs : 0 ≤ s) (hx : ∀ k, k < xs.length → -2400 ≤ xs.getD k 0 ∧ xs.getD k 0 ≤ 2400) :
    Calls Try.prog 54 #[.agg #[.int .i64 E, .slice A xs.length c], .int .i64 s] w fun e w' => e = .returned (.int .i64 (worth E xs s)) ∧ Below w.heap.size w w' := by
  have HV := Lib.hid hx
  have HB := Lib.hid (fun k hk => outSum_bd h4 hx s k hk)
  clear hx
  go_enter Try.func54, Try.ntmps54
  have o1_ := h.alloc (by first | omega | (simp; omega) | simp) (.cells #[.int .i64 E, .slice A xs.length c] 25)
  have B2_ := (Below.refl w.heap.size w).alloc (Nat.le_refl _) (.cells #[.int .i64 E, .slice A xs.length c] 25)
  have a3_ : (w.alloc (.cells #[.int .i64 E, .slice A xs.length c] 25)).cell? ⟨w.heap.size, 0, none⟩ = some (.int .i64 E) := by simp [go_sem]
  have a4_ : (w.alloc (.cells #[.int .i64 E, .slice A xs.length c] 25)).cell? ⟨w.heap.size, 1, none⟩ = some (.slice A xs.length c) := by simp [go_sem]
  go_wp2
  go_loop [5, 6] (fun o i => ∃ k : Nat, ∃ S : Int, o = .int .i64 (E - S) ∧ i = .int .i64 k ∧ (k ≤ xs.length) ∧ (S = outSum xs s k)) (fun o i => xs.length - (intOf i).toNat)
  case atStart => exact ⟨0, 0, by go_num, rfl, Nat.zero_le _, rfl⟩
  case round =>
    obtain ⟨k, S, rfl, rfl, hk, hS⟩ := hrel
    have hbS := HB.out k hk
    rw [← hS] at hbS
    have hp2 : 0 ≤ s / 2 ^ k := Int.ediv_nonneg (by omega) (by exact Int.le_of_lt (Int.pow_pos (by omega)))
    have HS := Lib.hid hS
    clear hS
    by_cases hlt0 : k < xs.length
    · by_cases h5_ : ((s / 2 ^ k) % 2) = 0
      · have h5_b : (((s / 2 ^ k) % 2) == 0) = true := by simpa using h5_
        have h5_n : (((s / 2 ^ k) % 2) != 0) = false := by simpa using h5_
        have h5_le : ((s / 2 ^ k) % 2) ≤ 0 := by omega
        have h5_ge : 0 ≤ ((s / 2 ^ k) % 2) := by omega
        have Hh5_ := Lib.hid h5_
        clear h5_
        obtain ⟨b6_, f7_, rfl, _, b6_h, -⟩ := o1_ (by omega)
        have c8_ : (w.alloc (.cells #[.int .i64 E, .slice (some ⟨b6_, f7_, none⟩) xs.length c] 25)).cell? ⟨b6_, f7_ + k, none⟩ = some (.int .i64 (xs.getD k 0)) := o1_.at2 k (by first | omega | (simp; omega) | simp)
        have c8_i : (k : Int) < (xs.length : Int) := by omega
        have c8_j : (0 : Int) ≤ (k : Int) := by omega
        have v9_g := (HV.out k (by omega) : -2400 ≤ xs.getD k 0 ∧ xs.getD k 0 ≤ 2400)
        obtain ⟨v9_, hv9_⟩ : ∃ v, v = xs.getD k 0 := ⟨_, rfl⟩
        rw [← hv9_] at c8_ v9_g
        have Hv9_ := Lib.hid hv9_
        clear hv9_
        obtain ⟨v9_g1, v9_g2⟩ := v9_g
        go_wp2
        go_round
        case rel => exact ⟨k + 1, S + v9_, by go_num, by go_num, by omega, by simp only [outSum]; rw [← HS.out, if_pos Hh5_.out]; rw [← Hv9_.out]⟩
        case measure => simp [intOf] <;> omega
      · have h5_b : (((s / 2 ^ k) % 2) == 0) = false := by simpa using h5_
        have h5_n : (((s / 2 ^ k) % 2) != 0) = true := by simpa using h5_
        go_wp2
        go_round
        case rel => exact ⟨k + 1, S, by go_num, by go_num, by omega, by simp only [outSum]; rw [← HS.out, if_neg h5_]; simp⟩
        case measure => simp [intOf] <;> omega
    · obtain rfl : k = xs.length := by omega
      have hfin : max (E - S) 0 = worth E xs s := by unfold worth; rw [HS.out]
      have HF := Lib.hid hfin
      clear hfin
      go_wp2
      all_goals
        go_ret
        exact ⟨ret_int (by rw [← HF.out]; omega), B2_⟩

set_option maxRecDepth 10000 in
set_option maxHeartbeats 400000 in
theorem specHas_any (A : Option Addr) (c : Nat) (xs : List Int) (s : Int) (w : World) (lo hi : Nat) (h : Ints w lo hi A xs) (h4 : xs.length ≤ 5) (hs : 0 ≤ s) (hx : ∀ k, k < xs.length → -2400 ≤ xs.getD k 0 ∧ xs.getD k 0 ≤ 2400) :
    Calls Try.prog 60 #[.slice A xs.length c, .int .i64 s] w fun e w' => e = .returned (.int .i64 (inSum xs s xs.length)) ∧ w = w' := by
  have HV := Lib.hid hx
  have HB := Lib.hid (fun k hk => inSum_bd h4 hx s k hk)
  clear hx
  go_enter Try.func60, Try.ntmps60
  go_wp2
  go_loop [5, 6] (fun o i => ∃ k : Nat, ∃ S : Int, o = .int .i64 S ∧ i = .int .i64 k ∧ (k ≤ xs.length) ∧ (S = inSum xs s k)) (fun o i => xs.length - (intOf i).toNat)
  case atStart => exact ⟨0, 0, rfl, rfl, Nat.zero_le _, rfl⟩
  case round =>
    obtain ⟨k, S, rfl, rfl, hk, hS⟩ := hrel
    have hbS := HB.out k hk
    rw [← hS] at hbS
    have hp2 : 0 ≤ s / 2 ^ k := Int.ediv_nonneg (by omega) (by exact Int.le_of_lt (Int.pow_pos (by omega)))
    have HS := Lib.hid hS
    clear hS
    by_cases hlt0 : k < xs.length
    · by_cases h1_ : ((s / 2 ^ k) % 2) = 1
      · have h1_b : (((s / 2 ^ k) % 2) == 1) = true := by simpa using h1_
        have h1_n : (((s / 2 ^ k) % 2) != 1) = false := by simpa using h1_
        have h1_le : ((s / 2 ^ k) % 2) ≤ 1 := by omega
        have h1_ge : 1 ≤ ((s / 2 ^ k) % 2) := by omega
        have Hh1_ := Lib.hid h1_
        clear h1_
        obtain ⟨b2_, f3_, rfl, _, b2_h, -⟩ := h (by omega)
        have c4_ : w.cell? ⟨b2_, f3_ + k, none⟩ = some (.int .i64 (xs.getD k 0)) := h.at2 k (by first | omega | (simp; omega) | simp)
        have c4_i : (k : Int) < (xs.length : Int) := by omega
        have c4_j : (0 : Int) ≤ (k : Int) := by omega
        have v5_g := (HV.out k (by omega) : -2400 ≤ xs.getD k 0 ∧ xs.getD k 0 ≤ 2400)
        obtain ⟨v5_, hv5_⟩ : ∃ v, v = xs.getD k 0 := ⟨_, rfl⟩
        rw [← hv5_] at c4_ v5_g
        have Hv5_ := Lib.hid hv5_
        clear hv5_
        obtain ⟨v5_g1, v5_g2⟩ := v5_g
        go_wp2
        go_round
        case rel => exact ⟨k + 1, S + v5_, by go_num, by go_num, by omega, by simp only [inSum]; rw [← HS.out, if_pos Hh1_.out]; rw [← Hv5_.out]⟩
        case measure => simp [intOf] <;> omega
      · have h1_b : (((s / 2 ^ k) % 2) == 1) = false := by simpa using h1_
        have h1_n : (((s / 2 ^ k) % 2) != 1) = true := by simpa using h1_
        go_wp2
        go_round
        case rel => exact ⟨k + 1, S, by go_num, by go_num, by omega, by simp only [inSum]; rw [← HS.out, if_neg h1_]; simp⟩
        case measure => simp [intOf] <;> omega
    · obtain rfl : k = xs.length := by omega
      go_wp2
      go_ret
      exact ⟨ret_int HS.out, rfl⟩

/-- What WorthOf returns. -/
def worthOf (E : Int) (xs : List Int) (s : Int) : Int := if caseOkB E xs = true ∧ 0 ≤ s ∧ s < 2 ^ xs.length then worth E xs s else -1

set_option maxRecDepth 10000 in
set_option maxHeartbeats 400000 in
theorem specWorthOf_any (E : Int) (A : Option Addr) (c : Nat) (xs : List Int) (s : Int) (w : World) (lo hi : Nat) (h : Ints w lo hi A xs) (hh : hi ≤ w.heap.size) (hl : xs.length ≤ 1152921504606846976) :
    Calls Try.prog 16 #[.agg #[.int .i64 E, .slice A xs.length c], .int .i64 s] w fun e w' => e = .returned (.int .i64 (worthOf E xs s)) ∧ Below w.heap.size w w' := by
  go_enter Try.func16, Try.ntmps16
  have o1_ := h.alloc (by first | omega | (simp; omega) | simp) (.cells #[.int .i64 E, .slice A xs.length c] 25)
  have B2_ := (Below.refl w.heap.size w).alloc (Nat.le_refl _) (.cells #[.int .i64 E, .slice A xs.length c] 25)
  have a3_ : (w.alloc (.cells #[.int .i64 E, .slice A xs.length c] 25)).cell? ⟨w.heap.size, 0, none⟩ = some (.int .i64 E) := by simp [go_sem]
  have a4_ : (w.alloc (.cells #[.int .i64 E, .slice A xs.length c] 25)).cell? ⟨w.heap.size, 1, none⟩ = some (.slice A xs.length c) := by simp [go_sem]
  by_cases h5_ : caseOkB E xs = true
  · have H5_ := Lib.hid h5_
    clear h5_
    have hbd := caseOk_bd H5_.out
    obtain ⟨hpw1, hpw2⟩ := pow_bd hbd.2.1
    have HV := Lib.hid (fun k hk => case_getD H5_.out k hk)
    have HSM := Lib.hid (caseOk_small H5_.out)
    have HCB := Lib.hid H5_.out
    go_wp2_with fail
    refine (specCaseOk_any E A c xs _ _ _ o1_ (by first | omega | (simp; omega) | simp) hl).mono ?_
    rintro e w6 ⟨he, hb6_⟩
    rw [H5_.out] at he
    subst he
    have a7_ := (hb6_.cell (p := ⟨w.heap.size, _, none⟩) (by first | omega | (simp; omega) | simp)).trans a3_
    have a8_ := (hb6_.cell (p := ⟨w.heap.size, _, none⟩) (by first | omega | (simp; omega) | simp)).trans a4_
    have o9_ := o1_.below hb6_ (by first | omega | (simp; omega) | simp)
    have z10_ := hb6_.size
    try simp at z10_
    have B11_ := B2_.trans (hb6_.mono (by first | omega | (simp; omega) | simp))
    clear hb6_
    by_cases h12_ : 0 ≤ s ∧ s ≤ ((2 ^ xs.length) - 1)
    · have H12_ := Lib.hid h12_
      clear h12_
      obtain ⟨H12_a, H12_b⟩ := H12_.out
      go_wp2_with fail
      refine (l1In_yes _ _ _ _ H12_.out).mono ?_
      rintro e w' ⟨rfl, rfl⟩
      go_wp2_with fail
      refine (specWorth_any E A c xs s _ _ _ o9_ (by first | omega | (simp; omega) | simp) (by omega) (by omega) (by omega) HV.out).mono ?_
      rintro e w13 ⟨he, hb13_⟩
      obtain ⟨v14_, hv14_⟩ : ∃ v, worth E xs s = v := ⟨_, rfl⟩
      rw [hv14_] at he
      subst he
      have Hv14_ := Lib.hid hv14_
      clear hv14_
      have a15_ := (hb13_.cell (p := ⟨w.heap.size, _, none⟩) (by first | omega | (simp; omega) | simp)).trans a7_
      have a16_ := (hb13_.cell (p := ⟨w.heap.size, _, none⟩) (by first | omega | (simp; omega) | simp)).trans a8_
      have o17_ := o9_.below hb13_ (by first | omega | (simp; omega) | simp)
      have z18_ := hb13_.size
      have B19_ := B11_.trans (hb13_.mono (by first | omega | (simp; omega) | simp))
      clear hb13_
      go_wp2
      go_ret
      exact ⟨ret_int (by rw [worthOf, if_pos ⟨H5_.out, by omega, by omega⟩]; exact Hv14_.out.symm), B19_⟩
    · have H12_ := Lib.hid h12_
      clear h12_
      go_wp2_with fail
      refine (l1In_no _ _ _ _ H12_.out).mono ?_
      rintro e w' ⟨rfl, rfl⟩
      go_wp2
      go_ret
      exact ⟨ret_int (by rw [worthOf, if_neg (fun h => H12_.out ⟨h.2.1, by have e := h.2.2; omega⟩)]), B11_⟩
  · have H5_ : Hid (caseOkB E xs = false) := by show _ = _; simpa using h5_
    clear h5_
    go_wp2_with fail
    refine (specCaseOk_any E A c xs _ _ _ o1_ (by first | omega | (simp; omega) | simp) hl).mono ?_
    rintro e w6 ⟨he, hb6_⟩
    rw [H5_.out] at he
    subst he
    have a7_ := (hb6_.cell (p := ⟨w.heap.size, _, none⟩) (by first | omega | (simp; omega) | simp)).trans a3_
    have a8_ := (hb6_.cell (p := ⟨w.heap.size, _, none⟩) (by first | omega | (simp; omega) | simp)).trans a4_
    have o9_ := o1_.below hb6_ (by first | omega | (simp; omega) | simp)
    have z10_ := hb6_.size
    try simp at z10_
    have B11_ := B2_.trans (hb6_.mono (by first | omega | (simp; omega) | simp))
    clear hb6_
    go_wp2
    go_ret
    exact ⟨ret_int (by rw [worthOf, H5_.out]; simp), B11_⟩

/-- A row that no set can better. -/
def CoreAt (E : Int) (xs ys : List Int) (s : Nat) : Prop := 48 * worth E xs (s : Int) ≤ inSum ys (s : Int) ys.length
def InRow (M : Int) (ys : List Int) (k : Nat) : Prop := 0 ≤ ys.getD k 0 ∧ ys.getD k 0 ≤ M
def Core (E : Int) (xs ys : List Int) : Prop := caseOkB E xs = true ∧ ys.length = xs.length ∧ (∀ k, k < ys.length → InRow (48 * xs.sum) ys k) ∧ (∀ s : Nat, (s : Int) < 2 ^ ys.length → CoreAt E xs ys s) ∧ ys.sum = 48 * E
noncomputable def coreB (E : Int) (xs ys : List Int) : Bool := @decide (Core E xs ys) (Classical.propDecidable _)
theorem coreB_iff (E : Int) (xs ys : List Int) : coreB E xs ys = true ↔ Core E xs ys := by simp [coreB]
theorem coreB_no {E : Int} {xs ys : List Int} (h : ¬ Core E xs ys) : coreB E xs ys = false := by simp [coreB, h]
theorem inrow_bd {E : Int} {xs ys : List Int} (h : ∀ j, j < ys.length → InRow (48 * xs.sum) ys j) (hb : 0 < xs.length ∧ xs.length ≤ 4 ∧ 0 ≤ E ∧ E ≤ xs.sum ∧ xs.sum ≤ 48) : ∀ k, k < ys.length → -2400 ≤ ys.getD k 0 ∧ ys.getD k 0 ≤ 2400 := fun k hk => by
  have e := h k hk; unfold InRow at e; omega
theorem inrow_small {ys : List Int} (h4 : ys.length ≤ 4) (h : ∀ k, k < ys.length → -2400 ≤ ys.getD k 0 ∧ ys.getD k 0 ≤ 2400) : Small ys := ⟨by omega, fun y hy => by
  obtain ⟨j, hj, rfl⟩ := List.getElem_of_mem hy
  have e := h j hj; rw [getD_of_lt ys j hj] at e; omega⟩
theorem worth_bd {E : Int} {xs : List Int} (h : caseOkB E xs = true) (s : Int) : 0 ≤ worth E xs s ∧ worth E xs s ≤ 48 := by
  have h1 := caseOk_bd h
  have h2 : ∀ k, k ≤ xs.length → 0 ≤ outSum xs s k := fun k => by
    induction k with
    | zero => intro _; exact Int.le_refl _
    | succ k ih =>
      intro hk
      have e := ih (by omega)
      have e1 := case_at h k (by omega)
      simp only [outSum]
      split
      · rw [getD_of_lt xs k (by omega)]; omega
      · omega
  have h3 := h2 xs.length (Nat.le_refl _)
  unfold worth; omega

set_option maxRecDepth 10000 in
set_option maxHeartbeats 400000 in
theorem specCoreOk_any (E : Int) (A : Option Addr) (c : Nat) (xs : List Int) (D : Option Addr) (d : Nat) (ys : List Int) (w : World) (lo hi : Nat) (h : Ints w lo hi A xs) (hh : hi ≤ w.heap.size) (hl : xs.length ≤ 1152921504606846976) (lo' hi' : Nat) (h' : Ints w lo' hi' D ys) (hh' : hi' ≤ w.heap.size) (_hl' : ys.length ≤ 1152921504606846976) :
    Calls Try.prog 20 #[.agg #[.int .i64 E, .slice A xs.length c], .slice D ys.length d] w fun e w' => e = .returned (.bool (coreB E xs ys)) ∧ Below w.heap.size w w' := by
  go_enter Try.func20, Try.ntmps20
  have o1_ := h.alloc (by first | omega | (simp; omega) | simp) (.cells #[.int .i64 E, .slice A xs.length c] 25)
  have o2_ := h'.alloc (by first | omega | (simp; omega) | simp) (.cells #[.int .i64 E, .slice A xs.length c] 25)
  have B3_ := (Below.refl w.heap.size w).alloc (Nat.le_refl _) (.cells #[.int .i64 E, .slice A xs.length c] 25)
  have a4_ : (w.alloc (.cells #[.int .i64 E, .slice A xs.length c] 25)).cell? ⟨w.heap.size, 0, none⟩ = some (.int .i64 E) := by simp [go_sem]
  have a5_ : (w.alloc (.cells #[.int .i64 E, .slice A xs.length c] 25)).cell? ⟨w.heap.size, 1, none⟩ = some (.slice A xs.length c) := by simp [go_sem]
  by_cases h6_ : caseOkB E xs = true
  · have H6_ := Lib.hid h6_
    clear h6_
    have hbd := caseOk_bd H6_.out
    obtain ⟨hpw1, hpw2⟩ := pow_bd hbd.2.1
    have HV := Lib.hid (fun k hk => case_getD H6_.out k hk)
    have HSM := Lib.hid (caseOk_small H6_.out)
    have HCB := Lib.hid H6_.out
    go_wp2_with fail
    refine (specCaseOk_any E A c xs _ _ _ o1_ (by first | omega | (simp; omega) | simp) hl).mono ?_
    rintro e w7 ⟨he, hb7_⟩
    rw [H6_.out] at he
    subst he
    have a8_ := (hb7_.cell (p := ⟨w.heap.size, _, none⟩) (by first | omega | (simp; omega) | simp)).trans a4_
    have a9_ := (hb7_.cell (p := ⟨w.heap.size, _, none⟩) (by first | omega | (simp; omega) | simp)).trans a5_
    have o10_ := o1_.below hb7_ (by first | omega | (simp; omega) | simp)
    have o11_ := o2_.below hb7_ (by first | omega | (simp; omega) | simp)
    have z12_ := hb7_.size
    try simp at z12_
    have B13_ := B3_.trans (hb7_.mono (by first | omega | (simp; omega) | simp))
    clear hb7_
    by_cases h14_ : (ys.length : Int) = (xs.length : Int)
    · have h14_b : ((ys.length : Int) == (xs.length : Int)) = true := by simpa using h14_
      have h14_n : ((ys.length : Int) != (xs.length : Int)) = false := by simpa using h14_
      have h14_le : (ys.length : Int) ≤ (xs.length : Int) := by omega
      have h14_ge : (xs.length : Int) ≤ (ys.length : Int) := by omega
      have Hh14_ := Lib.hid h14_
      clear h14_
      go_wp2
      go_loopw [5] (fun i wr => ∃ k : Nat, i = .int .i64 k ∧ (k ≤ ys.length) ∧ (∀ j, j < k → InRow (48 * xs.sum) ys j) ∧ Below w.heap.size w wr ∧ w7.heap.size ≤ wr.heap.size ∧ Ints wr (lo) (hi) A xs ∧ Ints wr (lo') (hi') D ys ∧ wr.cell? ⟨w.heap.size, 0, none⟩ = some (.int .i64 E) ∧ wr.cell? ⟨w.heap.size, 1, none⟩ = some (.slice A xs.length c)) (fun i _ => ys.length - (intOf i).toNat)
      case atStart => exact ⟨0, rfl, Nat.zero_le _, fun j hj => absurd hj (by omega), B13_, (by first | omega | (simp; omega) | simp), o10_, o11_, a8_, a9_⟩
      case round =>
        obtain ⟨k, rfl, hk, hup, k16_, k17_, k18_, k19_, k20_, k21_⟩ := hrel
        obtain ⟨w15, rfl⟩ : ∃ x, x = wr := ⟨_, rfl⟩
        have HUP := Lib.hid hup
        clear hup
        by_cases hlt0 : k < ys.length
        · obtain ⟨b22_, f23_, rfl, _, b22_h, -⟩ := k19_ (by omega)
          have c24_ : w15.cell? ⟨b22_, f23_ + k, none⟩ = some (.int .i64 (ys.getD k 0)) := k19_.at2 k (by first | omega | (simp; omega) | simp)
          have c24_i : (k : Int) < (ys.length : Int) := by omega
          have c24_j : (0 : Int) ≤ (k : Int) := by omega
          obtain ⟨v25_, hv25_⟩ : ∃ v, v = ys.getD k 0 := ⟨_, rfl⟩
          rw [← hv25_] at c24_
          have Hv25_ := Lib.hid hv25_
          clear hv25_
          obtain ⟨v26_, hv26_⟩ : ∃ v, xs.sum = v := ⟨_, rfl⟩
          have bv26_ : 0 ≤ v26_ ∧ v26_ ≤ 48 := by omega
          obtain ⟨bv26_1, bv26_2⟩ := bv26_
          have Hv26_ := Lib.hid hv26_
          clear hv26_
          by_cases h27_ : 0 ≤ v25_ ∧ v25_ ≤ (48 * v26_)
          · have H27_ := Lib.hid h27_
            clear h27_
            obtain ⟨H27_a, H27_b⟩ := H27_.out
            have hw28_ : IntKind.i64.wrap (48 * v26_) = (48 * v26_) := IntWalk.i64_in _ (by omega)
            go_wp2
            go_quiet ((first | (go_at_call 59; exact quiet_left1 (same_is (l1Sum_any A c xs _ _ _ k18_ HSM.out) (congrArg (Value.int .i64) Hv26_.out))) | (go_at_call 53; exact quiet_left1 (l1In_yes _ _ _ _ H27_.out))))
            obtain ⟨w29, hw29⟩ : ∃ x, x = w15.drewN nq := ⟨_, rfl⟩
            have hb30_ : Below w15.heap.size w15 w29 := by rw [hw29]; exact below_drewN (Below.refl _ _) _
            rw [← hw29]
            clear hw29
            clear hw28_
            have a32_ := (hb30_.cell (p := ⟨w.heap.size, _, none⟩) (by first | omega | (simp; omega) | simp)).trans k20_
            have a33_ := (hb30_.cell (p := ⟨w.heap.size, _, none⟩) (by first | omega | (simp; omega) | simp)).trans k21_
            have o34_ := k18_.below hb30_ (by first | omega | (simp; omega) | simp)
            have o35_ := k19_.below hb30_ (by first | omega | (simp; omega) | simp)
            have z36_ := hb30_.size
            have B37_ := k16_.trans (hb30_.mono (by first | omega | (simp; omega) | simp))
            clear hb30_
            go_wp2
            go_roundw
            case rel => exact ⟨k + 1, by go_num, by omega, fun j hj => (by rcases Nat.lt_or_ge j k with h1 | h1; exact HUP.out j h1; obtain rfl : j = k := (by omega); unfold InRow; rw [Hv26_.out, ← Hv25_.out]; exact H27_.out), B37_, (by first | omega | (simp; omega) | simp), o34_, o35_, a32_, a33_⟩
            case measure => simp [intOf] <;> omega
          · have H27_ := Lib.hid h27_
            clear h27_
            have hw28_ : IntKind.i64.wrap (48 * v26_) = (48 * v26_) := IntWalk.i64_in _ (by omega)
            go_wp2
            go_quiet ((first | (go_at_call 59; exact quiet_left1 (same_is (l1Sum_any A c xs _ _ _ k18_ HSM.out) (congrArg (Value.int .i64) Hv26_.out))) | (go_at_call 53; exact quiet_left1 (l1In_no _ _ _ _ H27_.out))))
            obtain ⟨w29, hw29⟩ : ∃ x, x = w15.drewN nq := ⟨_, rfl⟩
            have hb30_ : Below w15.heap.size w15 w29 := by rw [hw29]; exact below_drewN (Below.refl _ _) _
            rw [← hw29]
            clear hw29
            clear hw28_
            have a32_ := (hb30_.cell (p := ⟨w.heap.size, _, none⟩) (by first | omega | (simp; omega) | simp)).trans k20_
            have a33_ := (hb30_.cell (p := ⟨w.heap.size, _, none⟩) (by first | omega | (simp; omega) | simp)).trans k21_
            have o34_ := k18_.below hb30_ (by first | omega | (simp; omega) | simp)
            have o35_ := k19_.below hb30_ (by first | omega | (simp; omega) | simp)
            have z36_ := hb30_.size
            have B37_ := k16_.trans (hb30_.mono (by first | omega | (simp; omega) | simp))
            clear hb30_
            go_wp2
            go_ret
            exact ⟨ret_bool (coreB_no (fun h => H27_.out (by have e := h.2.2.1 k hlt0; unfold InRow at e; rw [Hv26_.out, ← Hv25_.out] at e; exact e))).symm, B37_⟩
        · obtain rfl : k = ys.length := by omega
          have hly : ys.length ≤ 4 := by omega
          obtain ⟨hpy1, hpy2⟩ := pow_bd hly
          have HY := Lib.hid (inrow_bd HUP.out hbd)
          have HSY := Lib.hid (inrow_small hly HY.out)
          go_wp2
          go_loopw [6] (fun i wr => ∃ m : Nat, i = .int .i64 m ∧ ((m : Int) ≤ 2 ^ ys.length) ∧ (∀ s : Nat, s < m → CoreAt E xs ys s) ∧ Below w.heap.size w wr ∧ w15.heap.size ≤ wr.heap.size ∧ Ints wr (lo) (hi) A xs ∧ Ints wr (lo') (hi') D ys ∧ wr.cell? ⟨w.heap.size, 0, none⟩ = some (.int .i64 E) ∧ wr.cell? ⟨w.heap.size, 1, none⟩ = some (.slice A xs.length c)) (fun i _ => (2 ^ ys.length - intOf i).toNat)
          case atStart => exact ⟨0, rfl, by omega, fun j hj => absurd hj (by omega), k16_, (by first | omega | (simp; omega) | simp), k18_, k19_, k20_, k21_⟩
          case round =>
            obtain ⟨m, rfl, hm, hco, k23_, k24_, k25_, k26_, k27_, k28_⟩ := hrel
            obtain ⟨w22, rfl⟩ : ∃ x, x = wr := ⟨_, rfl⟩
            have HCO := Lib.hid hco
            clear hco
            by_cases hlt2 : (m : Int) < 2 ^ ys.length
            · obtain ⟨v29_, hv29_⟩ : ∃ v, inSum ys (m : Int) ys.length = v := ⟨_, rfl⟩
              have Hv29_ := Lib.hid hv29_
              clear hv29_
              obtain ⟨v30_, hv30_⟩ : ∃ v, worth E xs (m : Int) = v := ⟨_, rfl⟩
              have bv30_ : 0 ≤ v30_ ∧ v30_ ≤ 48 := by rw [← hv30_]; exact worth_bd HCB.out _
              obtain ⟨bv30_1, bv30_2⟩ := bv30_
              have Hv30_ := Lib.hid hv30_
              clear hv30_
              have hw31_ : IntKind.i64.wrap (48 * v30_) = (48 * v30_) := IntWalk.i64_in _ (by omega)
              have g36_ : w.heap.size < w22.heap.size := (by first | omega | (simp; omega) | simp)
              have g37_ : hi ≤ w22.heap.size := (by first | omega | (simp; omega) | simp)
              have g38_ : hi' ≤ w22.heap.size := (by first | omega | (simp; omega) | simp)
              have g39_ : w.heap.size ≤ w22.heap.size := (by first | omega | (simp; omega) | simp)
              go_wp2_with fail
              refine wp_region_held_drew (S := (fun w' : World => Below w.heap.size w w' ∧ w22.heap.size ≤ w'.heap.size ∧ Ints w' (lo) (hi) A xs ∧ Ints w' (lo') (hi') D ys ∧ w'.cell? ⟨w.heap.size, 0, none⟩ = some (.int .i64 E) ∧ w'.cell? ⟨w.heap.size, 1, none⟩ = some (.slice A xs.length c) ∧ w22.heap.size ≤ w'.heap.size)) (by kernel_rfl) ⟨k23_.drew, by exact (by first | omega | (simp; omega) | simp), k25_, k26_, k27_, k28_, Nat.le_refl _⟩ (fun hHeld => ?_)
              refine wpAnyH_take (i := 0) (oi := ?oi40) (v := ?vv40) ?hi40 ?hs40 ?hf40 ?ha40 ?hq40 ?hy40 hHeld ?hr40
              case hi40 => (simp only [List.getElem?_toArray, List.getElem?_cons_zero]; exact rfl)
              case hs40 => kernel_rfl
              case hf40 => kernel_rfl
              case ha40 => kernel_rfl
              case hq40 => exact fun _ _ _ h => h
              case hy40 =>
                refine Or.inl ⟨by rfl, ?_⟩
                intro w' hSw
                try dsimp only at hSw
                go_simp
                first | done | with_reducible rfl
              simp only [Act.put, List.setIfInBounds_toArray, List.set_cons_succ, List.set_cons_zero]
              refine wpAnyH_take (i := 1) (oi := ?oi41) (v := ?vv41) ?hi41 ?hs41 ?hf41 ?ha41 ?hq41 ?hy41 hHeld ?hr41
              case hi41 => (simp only [List.getElem?_toArray, List.getElem?_cons_succ, List.getElem?_cons_zero]; exact rfl)
              case hs41 => kernel_rfl
              case hf41 => kernel_rfl
              case ha41 => kernel_rfl
              case hq41 => exact fun _ _ _ h => h
              case hy41 =>
                refine Or.inl ⟨by rfl, ?_⟩
                intro w' hSw
                try dsimp only at hSw
                go_simp
                first | done | with_reducible rfl
              simp only [Act.put, List.setIfInBounds_toArray, List.set_cons_succ, List.set_cons_zero]
              refine wpAnyH_take (i := 3) (oi := ?oi42) (v := ?vv42) ?hi42 ?hs42 ?hf42 ?ha42 ?hq42 ?hy42 hHeld ?hr42
              case hi42 => (simp only [List.getElem?_toArray, List.getElem?_cons_succ, List.getElem?_cons_zero]; exact rfl)
              case hs42 => kernel_rfl
              case hf42 => kernel_rfl
              case ha42 => kernel_rfl
              case hq42 => exact fun _ _ _ h => h
              case hy42 =>
                refine Or.inl ⟨by rfl, ?_⟩
                intro w' hSw
                try dsimp only at hSw
                go_simp
                first | done | with_reducible rfl
              simp only [Act.put, List.setIfInBounds_toArray, List.set_cons_succ, List.set_cons_zero]
              refine wpAnyH_take (i := 4) (oi := ?oi43) (v := ?vv43) ?hi43 ?hs43 ?hf43 ?ha43 ?hq43 ?hy43 hHeld ?hr43
              case hi43 => (simp only [List.getElem?_toArray, List.getElem?_cons_succ, List.getElem?_cons_zero]; exact rfl)
              case hs43 => kernel_rfl
              case hf43 => kernel_rfl
              case ha43 => kernel_rfl
              case hq43 => exact fun _ _ _ h => h
              case hy43 =>
                refine Or.inl ⟨by rfl, ?_⟩
                intro w' hSw
                try dsimp only at hSw
                go_simp
                first | done | with_reducible rfl
              simp only [Act.put, List.setIfInBounds_toArray, List.set_cons_succ, List.set_cons_zero]
              refine wpAnyH_ready (rs := [2]) (by kernel_rfl) (by simp) ?_
              refine AllReadyH.cons rfl (fun K hK => ?_) AllReadyH.nil
              go_simp
              go_at_call 60
              obtain ⟨BB, zz, k32_, k33_, k34_, k35_, zw⟩ := hHeld
              (with_reducible refine (same_is (specHas_any D d ys (m : Int) _ _ _ k33_ (by omega) (by omega) HY.out) (congrArg (Value.int .i64) Hv29_.out)).mono ?_)
              rintro e w9 ⟨rfl, rfl⟩
              refine hK.out _ _ ⟨BB, zz, k32_, k33_, k34_, k35_, zw⟩ (fun hHeld => ?_)
              clear hK K
              try simp only [Act.put, List.setIfInBounds_toArray, List.set_cons_zero, List.set_cons_succ]
              refine wpAnyH_ready (rs := [5]) (by kernel_rfl) (by simp) ?_
              refine AllReadyH.cons rfl (fun K hK => ?_) AllReadyH.nil
              go_simp
              go_at_call 54
              obtain ⟨BB, zz, k32_, k33_, k34_, k35_, zw⟩ := hHeld
              (with_reducible refine (below_is (specWorth_any E A c xs (m : Int) _ _ _ k32_ (by first | omega | (simp; omega) | simp) (by omega) (by omega) (by omega) HV.out) (congrArg (Value.int .i64) Hv30_.out)).mono ?_)
              rintro e w44 ⟨rfl, hb9⟩
              refine hK.out _ _ ⟨BB.trans (hb9.mono (by omega)), Nat.le_trans zz hb9.size, k32_.below hb9 (by omega), k33_.below hb9 (by omega), (hb9.cell (p := ⟨w.heap.size, 0, none⟩) (by show w.heap.size < _; omega)).trans k34_, (hb9.cell (p := ⟨w.heap.size, 1, none⟩) (by show w.heap.size < _; omega)).trans k35_, Nat.le_trans zw hb9.size⟩ (fun hHeld => ?_)
              clear hb9 zw k35_ k34_ k33_ k32_ zz BB
              clear hK K
              try simp only [Act.put, List.setIfInBounds_toArray, List.set_cons_zero, List.set_cons_succ]
              refine wpAnyH_take (i := 6) (oi := ?oi45) (v := ?vv45) ?hi45 ?hs45 ?hf45 ?ha45 ?hq45 ?hy45 hHeld ?hr45
              case hi45 => (simp only [List.getElem?_toArray, List.getElem?_cons_succ, List.getElem?_cons_zero]; exact rfl)
              case hs45 => kernel_rfl
              case hf45 => kernel_rfl
              case ha45 => kernel_rfl
              case hq45 => exact fun _ _ _ h => h
              case hy45 =>
                refine Or.inl ⟨by rfl, ?_⟩
                intro w' hSw
                try dsimp only at hSw
                go_simp
                first | done | with_reducible rfl
              simp only [Act.put, List.setIfInBounds_toArray, List.set_cons_succ, List.set_cons_zero]
              refine wpAnyH_take (i := 7) (oi := ?oi46) (v := ?vv46) ?hi46 ?hs46 ?hf46 ?ha46 ?hq46 ?hy46 hHeld ?hr46
              case hi46 => (simp only [List.getElem?_toArray, List.getElem?_cons_succ, List.getElem?_cons_zero]; exact rfl)
              case hs46 => kernel_rfl
              case hf46 => kernel_rfl
              case ha46 => kernel_rfl
              case hq46 => exact fun _ _ _ h => h
              case hy46 =>
                refine Or.inl ⟨by rfl, ?_⟩
                intro w' hSw
                try dsimp only at hSw
                go_simp
                first | done | with_reducible rfl
              simp only [Act.put, List.setIfInBounds_toArray, List.set_cons_succ, List.set_cons_zero]
              refine wpAnyH_done (by kernel_rfl) ?_ _
              obtain ⟨BB, zz, k32_, k33_, k34_, k35_, zw⟩ := hHeld
              clear hw31_
              have k47_ := BB
              clear BB
              have k48_ := zz
              clear zz
              have k49_ := zw
              clear zw
              by_cases h50_ : v29_ < (48 * v30_)
              · go_wp2
                go_ret
                exact ⟨ret_bool (coreB_no (fun h => by have e := h.2.2.2.1 m hlt2; unfold CoreAt at e; rw [Hv30_.out, Hv29_.out] at e; omega)).symm, k47_⟩
              · go_wp2
                go_roundw
                case rel => exact ⟨m + 1, by go_num, by omega, fun j hj => (by rcases Nat.lt_or_ge j m with h1 | h1; exact HCO.out j h1; obtain rfl : j = m := (by omega); unfold CoreAt; rw [Hv30_.out, Hv29_.out]; omega), k47_, (by first | omega | (simp; omega) | simp), k32_, k33_, k34_, k35_⟩
                case measure => simp [intOf] <;> omega
            · obtain ⟨v29_, hv29_⟩ : ∃ v, ys.sum = v := ⟨_, rfl⟩
              have Hv29_ := Lib.hid hv29_
              clear hv29_
              have hw30_ : IntKind.i64.wrap (48 * E) = (48 * E) := IntWalk.i64_in _ (by omega)
              go_wp2
              go_quiet ((go_at_call 59; exact quiet_left1 (same_is (l1Sum_any D d ys _ _ _ k26_ HSY.out) (congrArg (Value.int .i64) Hv29_.out))))
              obtain ⟨w31, hw31⟩ : ∃ x, x = w22.drewN nq := ⟨_, rfl⟩
              have hb32_ : Below w22.heap.size w22 w31 := by rw [hw31]; exact below_drewN (Below.refl _ _) _
              rw [← hw31]
              clear hw31
              clear hw30_
              have a34_ := (hb32_.cell (p := ⟨w.heap.size, _, none⟩) (by first | omega | (simp; omega) | simp)).trans k27_
              have a35_ := (hb32_.cell (p := ⟨w.heap.size, _, none⟩) (by first | omega | (simp; omega) | simp)).trans k28_
              have o36_ := k25_.below hb32_ (by first | omega | (simp; omega) | simp)
              have o37_ := k26_.below hb32_ (by first | omega | (simp; omega) | simp)
              have z38_ := hb32_.size
              have B39_ := k23_.trans (hb32_.mono (by first | omega | (simp; omega) | simp))
              clear hb32_
              by_cases h40_ : v29_ = (48 * E)
              · have h40_b : (v29_ == (48 * E)) = true := by simpa using h40_
                have h40_n : (v29_ != (48 * E)) = false := by simpa using h40_
                have h40_le : v29_ ≤ (48 * E) := by omega
                have h40_ge : (48 * E) ≤ v29_ := by omega
                have Hh40_ := Lib.hid h40_
                clear h40_
                go_wp2
                go_ret
                exact ⟨ret_bool (h40_b.trans ((coreB_iff E xs ys).2 ⟨HCB.out, by omega, HUP.out, fun s hs => HCO.out s (by omega), by rw [Hv29_.out, Hh40_.out]⟩).symm), B39_⟩
              · have h40_b : (v29_ == (48 * E)) = false := by simpa using h40_
                have h40_n : (v29_ != (48 * E)) = true := by simpa using h40_
                go_wp2
                go_ret
                exact ⟨ret_bool (h40_b.trans (coreB_no (fun h => h40_ (by rw [← Hv29_.out]; exact h.2.2.2.2))).symm), B39_⟩
    · have h14_b : ((ys.length : Int) == (xs.length : Int)) = false := by simpa using h14_
      have h14_n : ((ys.length : Int) != (xs.length : Int)) = true := by simpa using h14_
      go_wp2
      go_ret
      exact ⟨ret_bool (coreB_no (fun h => h14_ (by rw [h.2.1]))).symm, B13_⟩
  · have H6_ : Hid (caseOkB E xs = false) := by show _ = _; simpa using h6_
    clear h6_
    go_wp2_with fail
    refine (specCaseOk_any E A c xs _ _ _ o1_ (by first | omega | (simp; omega) | simp) hl).mono ?_
    rintro e w7 ⟨he, hb7_⟩
    rw [H6_.out] at he
    subst he
    have a8_ := (hb7_.cell (p := ⟨w.heap.size, _, none⟩) (by first | omega | (simp; omega) | simp)).trans a4_
    have a9_ := (hb7_.cell (p := ⟨w.heap.size, _, none⟩) (by first | omega | (simp; omega) | simp)).trans a5_
    have o10_ := o1_.below hb7_ (by first | omega | (simp; omega) | simp)
    have o11_ := o2_.below hb7_ (by first | omega | (simp; omega) | simp)
    have z12_ := hb7_.size
    try simp at z12_
    have B13_ := B3_.trans (hb7_.mono (by first | omega | (simp; omega) | simp))
    clear hb7_
    go_wp2
    go_ret
    exact ⟨ret_bool (coreB_no (fun h => by have e := h.1; rw [H6_.out] at e; cases e)).symm, B13_⟩

/-- The first k numbers are alike. -/
def AlikeTo (xs ys : List Int) (k : Nat) : Prop := ∀ j, j < k → xs.getD j 0 = ys.getD j 0
def ordTo (xs ys : List Int) : Nat → Int
  | 0 => 0
  | k + 1 => if ordTo xs ys k = 0 then (if xs.getD k 0 < ys.getD k 0 then -1 else if ys.getD k 0 < xs.getD k 0 then 1 else 0) else ordTo xs ys k
/-- What RowOrder returns. -/
def rowOrd (xs ys : List Int) : Int := if xs.length = ys.length ∧ xs.length ≤ 16 then ordTo xs ys xs.length else 2
theorem ordTo_stay {xs ys : List Int} {k : Nat} (h : ¬ ordTo xs ys k = 0) : ∀ m, k ≤ m → ordTo xs ys m = ordTo xs ys k := fun m hm => by
  induction m with
  | zero => obtain rfl : k = 0 := by omega
            rfl
  | succ m ih =>
    by_cases e : k = m + 1
    · subst e; rfl
    · have e1 := ih (by omega)
      simp only [ordTo, e1, if_neg h]

set_option maxRecDepth 10000 in
set_option maxHeartbeats 400000 in
theorem specRowOrder_any (A : Option Addr) (c : Nat) (xs : List Int) (D : Option Addr) (d : Nat) (ys : List Int) (w : World) (lo hi : Nat) (h : Ints w lo hi A xs) (hh : hi ≤ w.heap.size) (lo' hi' : Nat) (h' : Ints w lo' hi' D ys) (hh' : hi' ≤ w.heap.size) (_hl : xs.length ≤ 1152921504606846976) (_hl' : ys.length ≤ 1152921504606846976) :
    Calls Try.prog 31 #[.slice A xs.length c, .slice D ys.length d] w fun e w' => e = .returned (.int .i64 (rowOrd xs ys)) ∧ Below w.heap.size w w' := by
  go_enter Try.func31, Try.ntmps31
  by_cases h1_ : (xs.length : Int) = (ys.length : Int)
  · have h1_b : ((xs.length : Int) == (ys.length : Int)) = true := by simpa using h1_
    have h1_n : ((xs.length : Int) != (ys.length : Int)) = false := by simpa using h1_
    have h1_le : (xs.length : Int) ≤ (ys.length : Int) := by omega
    have h1_ge : (ys.length : Int) ≤ (xs.length : Int) := by omega
    have Hh1_ := Lib.hid h1_
    clear h1_
    by_cases h2_ : (xs.length : Int) > 16
    · go_wp2
      go_ret
      exact ⟨ret_int (by rw [rowOrd, if_neg (fun h => by have e := h.2; omega)]), Below.refl _ _⟩
    · go_wp2
      go_loopw [5] (fun i wr => ∃ k : Nat, i = .int .i64 k ∧ (k ≤ xs.length) ∧ (ordTo xs ys k = 0) ∧ Below w.heap.size w wr ∧ w.heap.size ≤ wr.heap.size ∧ Ints wr (lo) (hi) A xs ∧ Ints wr (lo') (hi') D ys) (fun i _ => xs.length - (intOf i).toNat)
      case atStart => exact ⟨0, rfl, Nat.zero_le _, rfl, Below.refl _ _, (by first | omega | (simp; omega) | simp), h, h'⟩
      case round =>
        obtain ⟨k, rfl, hk, ho, k4_, k5_, k6_, k7_⟩ := hrel
        obtain ⟨w3, rfl⟩ : ∃ x, x = wr := ⟨_, rfl⟩
        have HO := Lib.hid ho
        clear ho
        by_cases hlt0 : k < xs.length
        · obtain ⟨b8_, f9_, rfl, _, b8_h, -⟩ := k6_ (by omega)
          have c10_ : w3.cell? ⟨b8_, f9_ + k, none⟩ = some (.int .i64 (xs.getD k 0)) := k6_.at2 k (by first | omega | (simp; omega) | simp)
          have c10_i : (k : Int) < (xs.length : Int) := by omega
          have c10_j : (0 : Int) ≤ (k : Int) := by omega
          obtain ⟨v11_, hv11_⟩ : ∃ v, v = xs.getD k 0 := ⟨_, rfl⟩
          rw [← hv11_] at c10_
          have Hv11_ := Lib.hid hv11_
          clear hv11_
          obtain ⟨b12_, f13_, rfl, _, b12_h, -⟩ := k7_ (by omega)
          have c14_ : w3.cell? ⟨b12_, f13_ + k, none⟩ = some (.int .i64 (ys.getD k 0)) := k7_.at2 k (by first | omega | (simp; omega) | simp)
          have c14_i : (k : Int) < (ys.length : Int) := by omega
          have c14_j : (0 : Int) ≤ (k : Int) := by omega
          obtain ⟨v15_, hv15_⟩ : ∃ v, v = ys.getD k 0 := ⟨_, rfl⟩
          rw [← hv15_] at c14_
          have Hv15_ := Lib.hid hv15_
          clear hv15_
          go_wp2
          go_quiet (fail)
          obtain ⟨w16, hw16⟩ : ∃ x, x = w3.drewN nq := ⟨_, rfl⟩
          have hb17_ : Below w3.heap.size w3 w16 := by rw [hw16]; exact below_drewN (Below.refl _ _) _
          rw [← hw16]
          clear hw16
          have o19_ := k6_.below hb17_ (by first | omega | (simp; omega) | simp)
          have o20_ := k7_.below hb17_ (by first | omega | (simp; omega) | simp)
          have z21_ := hb17_.size
          have B22_ := k4_.trans (hb17_.mono (by first | omega | (simp; omega) | simp))
          clear hb17_
          by_cases h23_ : v11_ < v15_
          · go_wp2
            go_ret
            exact ⟨ret_int (by have e : ordTo xs ys (k + 1) = -1 := (by simp only [ordTo]; rw [HO.out, if_pos rfl, ← Hv11_.out, ← Hv15_.out, if_pos (show v11_ < v15_ by omega)]); rw [rowOrd, if_pos ⟨by omega, by omega⟩, ordTo_stay (k := k + 1) (by rw [e]; omega) _ (by omega), e]), B22_⟩
          · have c24_ : w16.cell? ⟨b8_, f9_ + k, none⟩ = some (.int .i64 v11_) := by rw [Hv11_.out]; exact o19_.at2 k (by first | omega | (simp; omega) | simp)
            have c24_i : (k : Int) < (xs.length : Int) := by omega
            have c24_j : (0 : Int) ≤ (k : Int) := by omega
            have c25_ : w16.cell? ⟨b12_, f13_ + k, none⟩ = some (.int .i64 v15_) := by rw [Hv15_.out]; exact o20_.at2 k (by first | omega | (simp; omega) | simp)
            have c25_i : (k : Int) < (ys.length : Int) := by omega
            have c25_j : (0 : Int) ≤ (k : Int) := by omega
            go_wp2
            go_quiet (fail)
            obtain ⟨w26, hw26⟩ : ∃ x, x = w16.drewN nq := ⟨_, rfl⟩
            have hb27_ : Below w16.heap.size w16 w26 := by rw [hw26]; exact below_drewN (Below.refl _ _) _
            rw [← hw26]
            clear hw26
            have o29_ := o19_.below hb27_ (by first | omega | (simp; omega) | simp)
            have o30_ := o20_.below hb27_ (by first | omega | (simp; omega) | simp)
            have z31_ := hb27_.size
            have B32_ := B22_.trans (hb27_.mono (by first | omega | (simp; omega) | simp))
            clear hb27_
            by_cases h33_ : v11_ > v15_
            · go_wp2
              go_ret
              exact ⟨ret_int (by have e : ordTo xs ys (k + 1) = 1 := (by simp only [ordTo]; rw [HO.out, if_pos rfl, ← Hv11_.out, ← Hv15_.out, if_neg (show ¬ v11_ < v15_ by omega), if_pos (show v15_ < v11_ by omega)]); rw [rowOrd, if_pos ⟨by omega, by omega⟩, ordTo_stay (k := k + 1) (by rw [e]; omega) _ (by omega), e]), B32_⟩
            · go_wp2
              go_roundw
              case rel => exact ⟨k + 1, by go_num, by omega, by simp only [ordTo]; rw [HO.out, if_pos rfl, ← Hv11_.out, ← Hv15_.out, if_neg (show ¬ v11_ < v15_ by omega), if_neg (show ¬ v15_ < v11_ by omega)], B32_, (by first | omega | (simp; omega) | simp), o29_, o30_⟩
              case measure => simp [intOf] <;> omega
        · obtain rfl : k = xs.length := by omega
          go_wp2
          go_ret
          exact ⟨ret_int (by rw [rowOrd, if_pos ⟨by omega, by omega⟩]; exact HO.out.symm), k4_⟩
  · have h1_b : ((xs.length : Int) == (ys.length : Int)) = false := by simpa using h1_
    have h1_n : ((xs.length : Int) != (ys.length : Int)) = true := by simpa using h1_
    go_wp2
    go_ret
    exact ⟨ret_int (by rw [rowOrd, if_neg (fun h => h1_ (by rw [h.1]))]), Below.refl _ _⟩

/-- What the sets are worth, in the order of their numbers. -/
def worthTo (E : Int) (xs : List Int) (m : Nat) : List Int := (List.range m).map fun (s : Nat) => worth E xs (s : Int)
theorem worthTo_length (E : Int) (xs : List Int) (m : Nat) : (worthTo E xs m).length = m := by simp [worthTo]
theorem worthTo_succ (E : Int) (xs : List Int) (m : Nat) : worthTo E xs (m + 1) = worthTo E xs m ++ [worth E xs (m : Int)] := by simp [worthTo, List.range_succ]
def worthRow (E : Int) (xs : List Int) : List Int := if caseOkB E xs = true then worthTo E xs (2 ^ xs.length) else []

set_option maxRecDepth 10000 in
set_option maxHeartbeats 400000 in
theorem specWorthRow_yes (E : Int) (A : Option Addr) (c : Nat) (xs : List Int) (w : World) (lo hi : Nat) (h : Ints w lo hi A xs) (hh : hi ≤ w.heap.size) (hl : xs.length ≤ 1152921504606846976) (hok : caseOkB E xs = true) :
    Calls Try.prog 34 #[.agg #[.int .i64 E, .slice A xs.length c]] w (RetInts w (worthTo E xs (2 ^ xs.length))) := by
  have hbd := caseOk_bd hok
  obtain ⟨hpw1, hpw2⟩ := pow_bd hbd.2.1
  have HV := Lib.hid (fun k hk => case_getD hok k hk)
  have HSM := Lib.hid (caseOk_small hok)
  have HCB := Lib.hid hok
  clear hok
  go_enter Try.func34, Try.ntmps34
  have o1_ := h.alloc (by first | omega | (simp; omega) | simp) (.cells #[.int .i64 E, .slice A xs.length c] 25)
  have B2_ := (Below.refl w.heap.size w).alloc (Nat.le_refl _) (.cells #[.int .i64 E, .slice A xs.length c] 25)
  have a3_ : (w.alloc (.cells #[.int .i64 E, .slice A xs.length c] 25)).cell? ⟨w.heap.size, 0, none⟩ = some (.int .i64 E) := by simp [go_sem]
  have a4_ : (w.alloc (.cells #[.int .i64 E, .slice A xs.length c] 25)).cell? ⟨w.heap.size, 1, none⟩ = some (.slice A xs.length c) := by simp [go_sem]
  have o5_ := o1_.alloc (by first | omega | (simp; omega) | simp) (.cells #[] 3)
  have a6_ := cell_alloc (o := (.cells #[] 3)) a3_ (by first | omega | (simp; omega) | simp)
  have a7_ := cell_alloc (o := (.cells #[] 3)) a4_ (by first | omega | (simp; omega) | simp)
  have B8_ := B2_.alloc (by first | omega | (simp; omega) | simp) (.cells #[] 3)
  have G9_ : Grow ((w.alloc (.cells #[.int .i64 E, .slice A xs.length c] 25)).alloc (.cells #[] 3)) (w.heap.size + 1) 0 ([] : List Int) := by have e := grow_lit (w.alloc (.cells #[.int .i64 E, .slice A xs.length c] 25)) ([] : List Int) (by simp); (try simp only [hsz] at e); exact e
  have l10_ := G9_.lt
  have HL11_ : Hid (([] : List Int).length = 0) := rfl
  go_wp2
  go_loopw [4, 3] (fun i v wr => ∃ m : Nat, ∃ g cg : Nat, i = .int .i64 m ∧ v = .slice (some ⟨g, 0, none⟩) m cg ∧ ((m : Int) ≤ 2 ^ xs.length) ∧ w.heap.size + 1 ≤ g ∧ Grow wr g cg (worthTo E xs m) ∧ Below w.heap.size w wr ∧ w.heap.size + 2 ≤ wr.heap.size ∧ Ints wr (lo) (hi) A xs ∧ wr.cell? ⟨w.heap.size, 0, none⟩ = some (.int .i64 E) ∧ wr.cell? ⟨w.heap.size, 1, none⟩ = some (.slice A xs.length c)) (fun i v _ => (2 ^ xs.length - intOf i).toNat)
  case atStart => exact ⟨0, (w.heap.size + 1), 0, rfl, (slice_n (by omega)), by omega, (by omega), G9_, B8_, (by first | omega | (simp; omega) | simp), o5_, a6_, a7_⟩
  case round =>
    obtain ⟨m, g, cg, rfl, rfl, hm, glb, G13_, k14_, k15_, k16_, k17_, k18_⟩ := hrel
    obtain ⟨w12, rfl⟩ : ∃ x, x = wr := ⟨_, rfl⟩
    have HL19_ : Hid ((worthTo E xs m).length = m) := worthTo_length E xs m
    have l20_ := G13_.lt
    by_cases hlt0 : (m : Int) < 2 ^ xs.length
    · go_wp2_with fail
      refine (specCaseOk_any E A c xs _ _ _ k16_ (by first | omega | (simp; omega) | simp) hl).mono ?_
      rintro e w21 ⟨he, hb21_⟩
      rw [HCB.out] at he
      subst he
      have a22_ := (hb21_.cell (p := ⟨w.heap.size, _, none⟩) (by first | omega | (simp; omega) | simp)).trans k17_
      have a23_ := (hb21_.cell (p := ⟨w.heap.size, _, none⟩) (by first | omega | (simp; omega) | simp)).trans k18_
      have o24_ := k16_.below hb21_ (by first | omega | (simp; omega) | simp)
      have o25_ := G13_.below hb21_ (by first | omega | (simp; omega) | simp)
      have z26_ := hb21_.size
      have B27_ := k14_.trans (hb21_.mono (by first | omega | (simp; omega) | simp))
      clear hb21_
      go_wp2_with fail
      refine (specWorth_any E A c xs (m : Int) _ _ _ o24_ (by first | omega | (simp; omega) | simp) (by omega) (by omega) (by omega) HV.out).mono ?_
      rintro e w28 ⟨he, hb28_⟩
      obtain ⟨v29_, hv29_⟩ : ∃ v, worth E xs (m : Int) = v := ⟨_, rfl⟩
      rw [hv29_] at he
      subst he
      have Hv29_ := Lib.hid hv29_
      clear hv29_
      have a30_ := (hb28_.cell (p := ⟨w.heap.size, _, none⟩) (by first | omega | (simp; omega) | simp)).trans a22_
      have a31_ := (hb28_.cell (p := ⟨w.heap.size, _, none⟩) (by first | omega | (simp; omega) | simp)).trans a23_
      have o32_ := o24_.below hb28_ (by first | omega | (simp; omega) | simp)
      have o33_ := o25_.below hb28_ (by first | omega | (simp; omega) | simp)
      have z34_ := hb28_.size
      have B35_ := B27_.trans (hb28_.mono (by first | omega | (simp; omega) | simp))
      clear hb28_
      have o36_ := o32_.alloc (by first | omega | (simp; omega) | simp) (.cells #[.int .i64 v29_] 3)
      have o37_ := o33_.alloc (.cells #[.int .i64 v29_] 3)
      have a38_ := cell_alloc (o := (.cells #[.int .i64 v29_] 3)) a30_ (by first | omega | (simp; omega) | simp)
      have a39_ := cell_alloc (o := (.cells #[.int .i64 v29_] 3)) a31_ (by first | omega | (simp; omega) | simp)
      have B40_ := B35_.alloc (by first | omega | (simp; omega) | simp) (.cells #[.int .i64 v29_] 3)
      have G41_ : Grow (w28.alloc (.cells #[.int .i64 v29_] 3)) (w28.heap.size) 1 [v29_] := by have e := grow_lit w28 [v29_] (by simp); (try simp only [hsz] at e); exact e
      have l42_ := G41_.lt
      have HL43_ : Hid ([v29_].length = 1) := rfl
      go_upto_region 4 with (at_builtin; (refine append_gr (by rfl) _ _ (by rfl) (xs := (worthTo E xs m)) (ys := ([v29_])) (by rfl) (by have e := HL19_.out; omega) o37_ (by rfl) (by have e := HL43_.out; omega) (G41_.ints.read) (by omega) ?_; intro g44_ c45_ w46 G46_ hC47_ hg48_))
      have a50_ := (hC47_.cell (p := ⟨w.heap.size, _, none⟩) (by first | omega | (simp; omega) | simp) (by first | omega | (simp; omega))).trans a38_
      have a51_ := (hC47_.cell (p := ⟨w.heap.size, _, none⟩) (by first | omega | (simp; omega) | simp) (by first | omega | (simp; omega))).trans a39_
      have o52_ := o36_.chg hC47_ (by first | omega | (simp; omega) | simp) (by omega)
      have o53_ := G41_.chg hC47_ (by omega)
      have z54_ := hC47_.size
      try simp at z54_
      have B55_ := B40_.trans (hC47_.below (by omega) (by first | omega | (simp; omega) | simp))
      clear hC47_
      have l56_ := G46_.lt
      have HL57_ : Hid (((worthTo E xs m) ++ ([v29_])).length = m + 1) := by show _ = _; rw [List.length_append, HL19_.out, HL43_.out]
      go_wp2
      go_roundw
      case rel => exact ⟨m + 1, g44_, c45_, by go_num, (slice_n (by omega)), by omega, (by omega), (by rw [worthTo_succ, Hv29_.out]; exact G46_), B55_, (by first | omega | (simp; omega) | simp), o52_, a50_, a51_⟩
      case measure => simp [intOf] <;> omega
    · have hme : 2 ^ xs.length = m := by have e : ((2 ^ xs.length : Nat) : Int) = (m : Int) := (by rw [Int.natCast_pow]; simp; omega); omega
      subst hme
      go_wp2
      go_ret
      (refine retInts_grow G13_ (by omega) ?_ k14_; first | rfl | simp [worthTo_length])

set_option maxRecDepth 10000 in
set_option maxHeartbeats 400000 in
theorem specWorthRow_no (E : Int) (A : Option Addr) (c : Nat) (xs : List Int) (w : World) (lo hi : Nat) (h : Ints w lo hi A xs) (hh : hi ≤ w.heap.size) (hl : xs.length ≤ 1152921504606846976) (hok : caseOkB E xs = false) :
    Calls Try.prog 34 #[.agg #[.int .i64 E, .slice A xs.length c]] w (RetInts w ([])) := by
  have HCB := Lib.hid hok
  clear hok
  go_enter Try.func34, Try.ntmps34
  have o1_ := h.alloc (by first | omega | (simp; omega) | simp) (.cells #[.int .i64 E, .slice A xs.length c] 25)
  have B2_ := (Below.refl w.heap.size w).alloc (Nat.le_refl _) (.cells #[.int .i64 E, .slice A xs.length c] 25)
  have a3_ : (w.alloc (.cells #[.int .i64 E, .slice A xs.length c] 25)).cell? ⟨w.heap.size, 0, none⟩ = some (.int .i64 E) := by simp [go_sem]
  have a4_ : (w.alloc (.cells #[.int .i64 E, .slice A xs.length c] 25)).cell? ⟨w.heap.size, 1, none⟩ = some (.slice A xs.length c) := by simp [go_sem]
  have o5_ := o1_.alloc (by first | omega | (simp; omega) | simp) (.cells #[] 3)
  have a6_ := cell_alloc (o := (.cells #[] 3)) a3_ (by first | omega | (simp; omega) | simp)
  have a7_ := cell_alloc (o := (.cells #[] 3)) a4_ (by first | omega | (simp; omega) | simp)
  have B8_ := B2_.alloc (by first | omega | (simp; omega) | simp) (.cells #[] 3)
  have G9_ : Grow ((w.alloc (.cells #[.int .i64 E, .slice A xs.length c] 25)).alloc (.cells #[] 3)) (w.heap.size + 1) 0 ([] : List Int) := by have e := grow_lit (w.alloc (.cells #[.int .i64 E, .slice A xs.length c] 25)) ([] : List Int) (by simp); (try simp only [hsz] at e); exact e
  have l10_ := G9_.lt
  have HL11_ : Hid (([] : List Int).length = 0) := rfl
  go_wp2
  go_loopw [4, 3] (fun i v wr => i = .int .i64 0 ∧ v = .slice (some ⟨w.heap.size + 1, 0, none⟩) 0 0 ∧ Below w.heap.size w wr ∧ w.heap.size + 2 ≤ wr.heap.size ∧ Ints wr (lo) (hi) A xs ∧ Grow wr (w.heap.size + 1) 0 ([] : List Int) ∧ wr.cell? ⟨w.heap.size, 0, none⟩ = some (.int .i64 E) ∧ wr.cell? ⟨w.heap.size, 1, none⟩ = some (.slice A xs.length c)) (fun i v _ => 0)
  case atStart => exact ⟨rfl, rfl, B8_, (by first | omega | (simp; omega) | simp), o5_, G9_, a6_, a7_⟩
  case round =>
    obtain ⟨rfl, rfl, k13_, k14_, k15_, k16_, k17_, k18_⟩ := hrel
    obtain ⟨w12, rfl⟩ : ∃ x, x = wr := ⟨_, rfl⟩
    by_cases hlt0 : (0 : Int) < wrap64 (2 ^ min xs.length 64)
    · go_wp2_with fail
      refine (specCaseOk_any E A c xs _ _ _ k15_ (by first | omega | (simp; omega) | simp) hl).mono ?_
      rintro e w19 ⟨he, hb19_⟩
      rw [HCB.out] at he
      subst he
      have a20_ := (hb19_.cell (p := ⟨w.heap.size, _, none⟩) (by first | omega | (simp; omega) | simp)).trans k17_
      have a21_ := (hb19_.cell (p := ⟨w.heap.size, _, none⟩) (by first | omega | (simp; omega) | simp)).trans k18_
      have o22_ := k15_.below hb19_ (by first | omega | (simp; omega) | simp)
      have o23_ := k16_.below hb19_ (by first | omega | (simp; omega) | simp)
      have z24_ := hb19_.size
      have B25_ := k13_.trans (hb19_.mono (by first | omega | (simp; omega) | simp))
      clear hb19_
      go_wp2
      go_ret
      (refine retInts_grow o23_ (by omega) ?_ B25_; first | rfl | simp [worthTo_length])
    · have hdd : decide ((0 : Int) < wrap64 (2 ^ min xs.length 64)) = false := by simpa using hlt0
      go_wp2
      go_ret
      (refine retInts_grow k16_ (by omega) ?_ k13_; first | rfl | simp [worthTo_length])

theorem specWorthRow_any (E : Int) (A : Option Addr) (c : Nat) (xs : List Int) (w : World) (lo hi : Nat) (h : Ints w lo hi A xs) (hh : hi ≤ w.heap.size) (hl : xs.length ≤ 1152921504606846976) :
    Calls Try.prog 34 #[.agg #[.int .i64 E, .slice A xs.length c]] w (RetInts w (worthRow E xs)) := by
  by_cases hok : caseOkB E xs = true
  · rw [worthRow, if_pos hok]; exact specWorthRow_yes E A c xs w lo hi h hh hl hok
  · have hok' : caseOkB E xs = false := by simpa using hok
    rw [worthRow, if_neg hok]; exact specWorthRow_no E A c xs w lo hi h hh hl hok'

/-- A number put into a row from the greatest one on, behind equal ones. -/
def insD (x : Int) : List Int → List Int
  | [] => [x]
  | y :: ys => if y < x then x :: y :: ys else y :: insD x ys
theorem insD_at {x : Int} : ∀ (l : List Int) (j : Nat), j ≤ l.length → (∀ i, i < j → x ≤ l.getD i 0) → (j < l.length → l.getD j 0 < x) → insD x l = l.take j ++ [x] ++ l.drop j
  | [], j, hj, _, _ => by
    obtain rfl : j = 0 := by simpa using hj
    rfl
  | y :: ys, 0, _, _, h => by
    have e := h (by simp)
    simp only [List.getD_cons_zero] at e
    simp [insD, e]
  | y :: ys, j + 1, hj, h1, h2 => by
    have e := h1 0 (by omega)
    simp only [List.getD_cons_zero] at e
    have r := insD_at ys j (by simpa using hj) (fun i hi => by have e2 := h1 (i + 1) (by omega); simpa using e2) (fun h => by have e2 := h2 (by simpa using h); simpa using e2)
    simp only [insD, if_neg (show ¬ y < x by omega), r, List.take_succ_cons, List.drop_succ_cons, List.cons_append]
theorem insD_length (x : Int) : ∀ l : List Int, (insD x l).length = l.length + 1
  | [] => rfl
  | y :: ys => by
    simp only [insD]; split
    · simp
    · simp [insD_length x ys]
/-- From the greatest one on. -/
def Desc : List Int → Prop
  | [] => True
  | y :: ys => (∀ z ∈ ys, z ≤ y) ∧ Desc ys
theorem insD_mem (x : Int) : ∀ (l : List Int) (z : Int), z ∈ insD x l ↔ z = x ∨ z ∈ l
  | [], z => by simp [insD]
  | y :: ys, z => by
    simp only [insD]; split
    · simp
    · simp only [List.mem_cons, insD_mem x ys z]
      constructor <;> rintro (h | h | h) <;> simp [h]
theorem insD_desc (x : Int) : ∀ l : List Int, Desc l → Desc (insD x l)
  | [], _ => ⟨by simp, trivial⟩
  | y :: ys, h => by
    simp only [insD]; split
    · rename_i hx
      exact ⟨fun z hz => by
        rcases List.mem_cons.1 hz with e | e
        · omega
        · have := h.1 z e; omega, h⟩
    · rename_i hx
      exact ⟨fun z hz => by
        rcases (insD_mem x ys z).1 hz with e | e
        · omega
        · exact h.1 z e, insD_desc x ys h.2⟩
theorem desc_at : ∀ (l : List Int), Desc l → ∀ i j, i ≤ j → j < l.length → l.getD j 0 ≤ l.getD i 0
  | [], _, _, _, _, h => absurd h (by simp)
  | y :: ys, h, 0, 0, _, _ => Int.le_refl _
  | y :: ys, h, 0, j + 1, _, hj => by
    have hj' : j < ys.length := by simpa using hj
    simp only [List.getD_cons_zero, List.getD_cons_succ]
    rw [getD_of_lt ys j hj']
    exact h.1 _ (List.getElem_mem hj')
  | y :: ys, h, i + 1, 0, hij, _ => by omega
  | y :: ys, h, i + 1, j + 1, hij, hj => by
    simp only [List.getD_cons_succ]
    exact desc_at ys h.2 i j (by omega) (by simpa using hj)
/-- What a set misses. -/
def missOf (E : Int) (xs ys : List Int) (s : Nat) : Int := 48 * worth E xs (s : Int) - inSum ys (s : Int) ys.length
/-- What the sets from 1 on and below m miss, from the greatest miss on. -/
def missTo (E : Int) (xs ys : List Int) : Nat → List Int
  | 0 => []
  | m + 1 => if m = 0 then [] else insD (missOf E xs ys m) (missTo E xs ys m)
theorem missTo_length (E : Int) (xs ys : List Int) : ∀ m, (missTo E xs ys m).length = m - 1
  | 0 => rfl
  | m + 1 => by
    simp only [missTo]; split
    · subst_vars; rfl
    · rw [insD_length, missTo_length E xs ys m]; omega
theorem missTo_desc (E : Int) (xs ys : List Int) : ∀ m, Desc (missTo E xs ys m)
  | 0 => trivial
  | m + 1 => by
    simp only [missTo]; split
    · trivial
    · exact insD_desc _ _ (missTo_desc E xs ys m)
noncomputable def missRow (E : Int) (xs ys : List Int) : List Int := if awardsB E xs ys = true then missTo E xs ys (2 ^ ys.length - 1) else []

set_option maxRecDepth 10000 in
set_option maxHeartbeats 400000 in
theorem specMissRow_yes (E : Int) (A : Option Addr) (c : Nat) (xs : List Int) (D : Option Addr) (d : Nat) (ys : List Int) (w : World) (lo hi : Nat) (h : Ints w lo hi A xs) (hh : hi ≤ w.heap.size) (hl : xs.length ≤ 1152921504606846976) (lo' hi' : Nat) (h' : Ints w lo' hi' D ys) (hh' : hi' ≤ w.heap.size) (hl' : ys.length ≤ 1152921504606846976) (hok : awardsB E xs ys = true) :
    Calls Try.prog 28 #[.agg #[.int .i64 E, .slice A xs.length c], .slice D ys.length d] w (RetInts w (missTo E xs ys (2 ^ ys.length - 1))) := by
  have hA := (awardsB_iff E xs ys).1 hok
  have hbd := caseOk_bd hA.1
  have HCB := Lib.hid hA.1
  have hly : ys.length ≤ 4 := by have e := hA.2.1; omega
  obtain ⟨hpy1, hpy2⟩ := pow_bd hly
  have hpy3 := pow_bd2 (show 1 ≤ ys.length by have e := hA.2.1; omega)
  have HV := Lib.hid (fun k hk => case_getD hA.1 k hk)
  have HY : Hid (∀ k, k < ys.length → -2400 ≤ ys.getD k 0 ∧ ys.getD k 0 ≤ 2400) := fun k hk => by rw [getD_of_lt ys k hk]; have e := aw_range hA.1 hA.2.1 hA.2.2.1 _ (List.getElem_mem hk); omega
  have HOK := Lib.hid hok
  clear hok hA
  go_enter Try.func28, Try.ntmps28
  have o1_ := h.alloc (by first | omega | (simp; omega) | simp) (.cells #[.int .i64 E, .slice A xs.length c] 25)
  have o2_ := h'.alloc (by first | omega | (simp; omega) | simp) (.cells #[.int .i64 E, .slice A xs.length c] 25)
  have B3_ := (Below.refl w.heap.size w).alloc (Nat.le_refl _) (.cells #[.int .i64 E, .slice A xs.length c] 25)
  have a4_ : (w.alloc (.cells #[.int .i64 E, .slice A xs.length c] 25)).cell? ⟨w.heap.size, 0, none⟩ = some (.int .i64 E) := by simp [go_sem]
  have a5_ : (w.alloc (.cells #[.int .i64 E, .slice A xs.length c] 25)).cell? ⟨w.heap.size, 1, none⟩ = some (.slice A xs.length c) := by simp [go_sem]
  have o6_ := o1_.alloc (by first | omega | (simp; omega) | simp) (.cells #[] 3)
  have o7_ := o2_.alloc (by first | omega | (simp; omega) | simp) (.cells #[] 3)
  have a8_ := cell_alloc (o := (.cells #[] 3)) a4_ (by first | omega | (simp; omega) | simp)
  have a9_ := cell_alloc (o := (.cells #[] 3)) a5_ (by first | omega | (simp; omega) | simp)
  have B10_ := B3_.alloc (by first | omega | (simp; omega) | simp) (.cells #[] 3)
  have G11_ : Grow ((w.alloc (.cells #[.int .i64 E, .slice A xs.length c] 25)).alloc (.cells #[] 3)) (w.heap.size + 1) 0 ([] : List Int) := by have e := grow_lit (w.alloc (.cells #[.int .i64 E, .slice A xs.length c] 25)) ([] : List Int) (by simp); (try simp only [hsz] at e); exact e
  have l12_ := G11_.lt
  have HL13_ : Hid (([] : List Int).length = 0) := rfl
  go_wp2_with fail
  refine (specAwardsOk_any E A c xs D d ys _ _ _ o6_ (by first | omega | (simp; omega) | simp) hl _ _ o7_ (by first | omega | (simp; omega) | simp) hl').mono ?_
  rintro e w14 ⟨he, hb14_⟩
  rw [HOK.out] at he
  subst he
  have a15_ := (hb14_.cell (p := ⟨w.heap.size, _, none⟩) (by first | omega | (simp; omega) | simp)).trans a8_
  have a16_ := (hb14_.cell (p := ⟨w.heap.size, _, none⟩) (by first | omega | (simp; omega) | simp)).trans a9_
  have o17_ := o6_.below hb14_ (by first | omega | (simp; omega) | simp)
  have o18_ := o7_.below hb14_ (by first | omega | (simp; omega) | simp)
  have o19_ := G11_.below hb14_ (by first | omega | (simp; omega) | simp)
  have z20_ := hb14_.size
  try simp at z20_
  have B21_ := B10_.trans (hb14_.mono (by first | omega | (simp; omega) | simp))
  clear hb14_
  go_wp2
  go_loopw [6, 5] (fun i v wr => ∃ m : Nat, ∃ g cg : Nat, i = .int .i64 m ∧ v = .slice (some ⟨g, 0, none⟩) (m - 1) cg ∧ ((m : Int) ≤ 2 ^ ys.length - 1) ∧ (1 ≤ m) ∧ w.heap.size + 1 ≤ g ∧ Grow wr g cg (missTo E xs ys m) ∧ Below w.heap.size w wr ∧ w14.heap.size ≤ wr.heap.size ∧ Ints wr (lo) (hi) A xs ∧ Ints wr (lo') (hi') D ys ∧ wr.cell? ⟨w.heap.size, 0, none⟩ = some (.int .i64 E) ∧ wr.cell? ⟨w.heap.size, 1, none⟩ = some (.slice A xs.length c)) (fun i v _ => (2 ^ ys.length - intOf i).toNat)
  case atStart => exact ⟨1, (w.heap.size + 1), 0, rfl, (slice_n (by omega)), by omega, by omega, (by omega), o19_, B21_, (by first | omega | (simp; omega) | simp), o17_, o18_, a15_, a16_⟩
  case round =>
    obtain ⟨m, g, cg, rfl, rfl, hm, hm1, glb, G23_, k24_, k25_, k26_, k27_, k28_, k29_⟩ := hrel
    obtain ⟨w22, rfl⟩ : ∃ x, x = wr := ⟨_, rfl⟩
    have HL30_ : Hid ((missTo E xs ys m).length = (m - 1)) := missTo_length E xs ys m
    have l31_ := G23_.lt
    have hroom : m - 1 ≤ cg := by have e := G23_.room; rw [missTo_length] at e; exact e
    by_cases hlt0 : (m : Int) < 2 ^ ys.length - 1
    · go_wp2_with fail
      refine (specWorth_any E A c xs (m : Int) _ _ _ k26_ (by first | omega | (simp; omega) | simp) (by omega) (by omega) (by omega) HV.out).mono ?_
      rintro e w32 ⟨he, hb32_⟩
      obtain ⟨v33_, hv33_⟩ : ∃ v, worth E xs (m : Int) = v := ⟨_, rfl⟩
      rw [hv33_] at he
      subst he
      have bv33_ : 0 ≤ v33_ ∧ v33_ ≤ 48 := by rw [← hv33_]; exact worth_bd HCB.out _
      obtain ⟨bv33_1, bv33_2⟩ := bv33_
      have Hv33_ := Lib.hid hv33_
      clear hv33_
      have a34_ := (hb32_.cell (p := ⟨w.heap.size, _, none⟩) (by first | omega | (simp; omega) | simp)).trans k28_
      have a35_ := (hb32_.cell (p := ⟨w.heap.size, _, none⟩) (by first | omega | (simp; omega) | simp)).trans k29_
      have o36_ := k26_.below hb32_ (by first | omega | (simp; omega) | simp)
      have o37_ := k27_.below hb32_ (by first | omega | (simp; omega) | simp)
      have o38_ := G23_.below hb32_ (by first | omega | (simp; omega) | simp)
      have z39_ := hb32_.size
      have B40_ := k24_.trans (hb32_.mono (by first | omega | (simp; omega) | simp))
      clear hb32_
      go_wp2_with fail
      refine (specHas_any D d ys (m : Int) _ _ _ o37_ (by omega) (by omega) HY.out).mono ?_
      rintro e w' ⟨he, rfl⟩
      obtain ⟨v41_, hv41_⟩ : ∃ v, inSum ys (m : Int) ys.length = v := ⟨_, rfl⟩
      rw [hv41_] at he
      subst he
      have bv41_ : -12000 ≤ v41_ ∧ v41_ ≤ 12000 := by rw [← hv41_]; exact inSum_bd (by omega) HY.out _ _ (Nat.le_refl _)
      obtain ⟨bv41_1, bv41_2⟩ := bv41_
      have Hv41_ := Lib.hid hv41_
      clear hv41_
      go_wp2
      go_loopw [8] (fun a wr => ∃ j : Nat, a = .int .i64 j ∧ (j ≤ m - 1) ∧ (∀ i, j ≤ i → i < m - 1 → (missTo E xs ys m).getD i 0 < ((48 * v33_) - v41_)) ∧ Below w.heap.size w wr ∧ w32.heap.size ≤ wr.heap.size ∧ Ints wr (lo) (hi) A xs ∧ Ints wr (lo') (hi') D ys ∧ Grow wr g cg (missTo E xs ys m) ∧ wr.cell? ⟨w.heap.size, 0, none⟩ = some (.int .i64 E) ∧ wr.cell? ⟨w.heap.size, 1, none⟩ = some (.slice A xs.length c)) (fun a _ => (intOf a).toNat)
      case atStart => exact ⟨m - 1, by go_num, Nat.le_refl _, fun i h1 h2 => absurd h1 (by omega), B40_, (by first | omega | (simp; omega) | simp), o36_, o37_, o38_, a34_, a35_⟩
      case round =>
        obtain ⟨j, rfl, hj, hjs, k43_, k44_, k45_, k46_, k47_, k48_, k49_⟩ := hrel
        obtain ⟨w42, rfl⟩ : ∃ x, x = wr := ⟨_, rfl⟩
        have HJS := Lib.hid hjs
        clear hjs
        by_cases hlt2 : 0 < j
        · obtain ⟨q, rfl⟩ : ∃ q, j = q + 1 := ⟨j - 1, by omega⟩
          have c50_ : w42.cell? ⟨g, q, none⟩ = some (.int .i64 ((missTo E xs ys m).getD q 0)) := k47_.at_ q (by rw [missTo_length]; omega)
          have c50_i : (q : Int) < ((m - 1) : Int) := by omega
          have c50_j : (0 : Int) ≤ (q : Int) := by omega
          obtain ⟨v51_, hv51_⟩ : ∃ v, v = (missTo E xs ys m).getD q 0 := ⟨_, rfl⟩
          rw [← hv51_] at c50_
          have Hv51_ := Lib.hid hv51_
          clear hv51_
          by_cases h52_ : v51_ < ((48 * v33_) - v41_)
          · go_wp2
            go_roundw
            case rel => exact ⟨q, by go_num, by omega, fun i h1 h2 => (by rcases Nat.lt_or_ge q i with h3 | h3; exact HJS.out i (by omega) h2; obtain rfl : i = q := (by omega); rw [← Hv51_.out]; omega), k43_, (by first | omega | (simp; omega) | simp), k45_, k46_, k47_, k48_, k49_⟩
            case measure => simp [intOf] <;> omega
          · have o53_ := k45_.alloc (by first | omega | (simp; omega) | simp) (.cells #[] 3)
            have o54_ := k46_.alloc (by first | omega | (simp; omega) | simp) (.cells #[] 3)
            have o55_ := k47_.alloc (.cells #[] 3)
            have a56_ := cell_alloc (o := (.cells #[] 3)) k48_ (by first | omega | (simp; omega) | simp)
            have a57_ := cell_alloc (o := (.cells #[] 3)) k49_ (by first | omega | (simp; omega) | simp)
            have B58_ := k43_.alloc (by first | omega | (simp; omega) | simp) (.cells #[] 3)
            have G59_ : Grow (w42.alloc (.cells #[] 3)) (w42.heap.size) 0 ([] : List Int) := by have e := grow_lit w42 ([] : List Int) (by simp); (try simp only [hsz] at e); exact e
            have l60_ := G59_.lt
            have HL61_ : Hid (([] : List Int).length = 0) := rfl
            have HL62_k : (q + 1) ≤ (missTo E xs ys m).length := by have e := HL30_.out; omega
            have HL62_ : Hid (((missTo E xs ys m).take (q + 1)).length = (q + 1)) := by show _ = _; rw [List.length_take]; omega
            go_upto_region 12 with (at_builtin; (refine append_gr (by rfl) _ _ (by rfl) (xs := ([] : List Int)) (ys := ((missTo E xs ys m).take (q + 1))) (by rfl) (by have e := HL61_.out; omega) G59_ (by rfl) (by have e := HL62_.out; omega) (take_read o55_.ints.read HL62_k) (by omega) ?_; intro g63_ c64_ w65 G65_ hC66_ hg67_))
            have a69_ := (hC66_.cell (p := ⟨w.heap.size, _, none⟩) (by first | omega | (simp; omega) | simp) (by first | omega | (simp; omega))).trans a56_
            have a70_ := (hC66_.cell (p := ⟨w.heap.size, _, none⟩) (by first | omega | (simp; omega) | simp) (by first | omega | (simp; omega))).trans a57_
            have o71_ := o53_.chg hC66_ (by first | omega | (simp; omega) | simp) (by omega)
            have o72_ := o54_.chg hC66_ (by first | omega | (simp; omega) | simp) (by omega)
            have o73_ := o55_.chg hC66_ (by omega)
            have z74_ := hC66_.size
            try simp at z74_
            have B75_ := B58_.trans (hC66_.below (by omega) (by first | omega | (simp; omega) | simp))
            clear hC66_
            have l76_ := G65_.lt
            have HL77_ : Hid ((([] : List Int) ++ ((missTo E xs ys m).take (q + 1))).length = 0 + (q + 1)) := by show _ = _; rw [List.length_append, HL61_.out, HL62_.out]
            have o78_ := o71_.alloc (by first | omega | (simp; omega) | simp) (.cells #[.int .i64 ((48 * v33_) - v41_)] 3)
            have o79_ := o72_.alloc (by first | omega | (simp; omega) | simp) (.cells #[.int .i64 ((48 * v33_) - v41_)] 3)
            have o80_ := o73_.alloc (.cells #[.int .i64 ((48 * v33_) - v41_)] 3)
            have o81_ := G65_.alloc (.cells #[.int .i64 ((48 * v33_) - v41_)] 3)
            have a82_ := cell_alloc (o := (.cells #[.int .i64 ((48 * v33_) - v41_)] 3)) a69_ (by first | omega | (simp; omega) | simp)
            have a83_ := cell_alloc (o := (.cells #[.int .i64 ((48 * v33_) - v41_)] 3)) a70_ (by first | omega | (simp; omega) | simp)
            have B84_ := B75_.alloc (by first | omega | (simp; omega) | simp) (.cells #[.int .i64 ((48 * v33_) - v41_)] 3)
            have G85_ : Grow (w65.alloc (.cells #[.int .i64 ((48 * v33_) - v41_)] 3)) (w65.heap.size) 1 [((48 * v33_) - v41_)] := by have e := grow_lit w65 [((48 * v33_) - v41_)] (by simp); (try simp only [hsz] at e); exact e
            have l86_ := G85_.lt
            have HL87_ : Hid ([((48 * v33_) - v41_)].length = 1) := rfl
            go_upto_region 13 with (at_builtin; (refine append_gr (by rfl) _ _ (by rfl) (xs := (([] : List Int) ++ ((missTo E xs ys m).take (q + 1)))) (ys := ([((48 * v33_) - v41_)])) (by rfl) (by have e := HL77_.out; omega) o81_ (by rfl) (by have e := HL87_.out; omega) (G85_.ints.read) (by omega) ?_; intro g88_ c89_ w90 G90_ hC91_ hg92_))
            have a94_ := (hC91_.cell (p := ⟨w.heap.size, _, none⟩) (by first | omega | (simp; omega) | simp) (by first | omega | (simp; omega))).trans a82_
            have a95_ := (hC91_.cell (p := ⟨w.heap.size, _, none⟩) (by first | omega | (simp; omega) | simp) (by first | omega | (simp; omega))).trans a83_
            have o96_ := o78_.chg hC91_ (by first | omega | (simp; omega) | simp) (by omega)
            have o97_ := o79_.chg hC91_ (by first | omega | (simp; omega) | simp) (by omega)
            have o98_ := o80_.chg hC91_ (by omega)
            have o99_ := G85_.chg hC91_ (by omega)
            have z100_ := hC91_.size
            try simp at z100_
            have B101_ := B84_.trans (hC91_.below (by omega) (by first | omega | (simp; omega) | simp))
            clear hC91_
            have l102_ := G90_.lt
            have HL103_ : Hid (((([] : List Int) ++ ((missTo E xs ys m).take (q + 1))) ++ ([((48 * v33_) - v41_)])).length = (0 + (q + 1)) + 1) := by show _ = _; rw [List.length_append, HL77_.out, HL87_.out]
            by_cases h104_ : cg = (q + 1)
            · subst h104_
              have HL105_k : (q + 1) ≤ (missTo E xs ys m).length := by have e := HL30_.out; omega
              have HL105_ : Hid (((missTo E xs ys m).drop (q + 1)).length = (m - 1) - (q + 1)) := by show _ = _; rw [List.length_drop, HL30_.out]
              go_upto_region 6 with (at_builtin; (refine append_gr (by rfl) _ _ (by rfl) (xs := ((([] : List Int) ++ ((missTo E xs ys m).take (q + 1))) ++ ([((48 * v33_) - v41_)]))) (ys := ((missTo E xs ys m).drop (q + 1))) (by rfl) (by have e := HL103_.out; omega) G90_ (by rfl) (by have e := HL105_.out; omega) (fun j hj => absurd hj (by have e := HL105_.out; have e2 := o98_.room; have e3 := HL30_.out; omega)) (by omega) ?_; intro g106_ c107_ w108 G108_ hC109_ hg110_))
              have a112_ := (hC109_.cell (p := ⟨w.heap.size, _, none⟩) (by first | omega | (simp; omega) | simp) (by first | omega | (simp; omega))).trans a94_
              have a113_ := (hC109_.cell (p := ⟨w.heap.size, _, none⟩) (by first | omega | (simp; omega) | simp) (by first | omega | (simp; omega))).trans a95_
              have o114_ := o96_.chg hC109_ (by first | omega | (simp; omega) | simp) (by omega)
              have o115_ := o97_.chg hC109_ (by first | omega | (simp; omega) | simp) (by omega)
              have o116_ := o98_.chg hC109_ (by omega)
              have o117_ := o99_.chg hC109_ (by omega)
              have z118_ := hC109_.size
              have B119_ := B101_.trans (hC109_.below (by omega) (by first | omega | (simp; omega) | simp))
              clear hC109_
              have l120_ := G108_.lt
              have HL121_ : Hid ((((([] : List Int) ++ ((missTo E xs ys m).take (q + 1))) ++ ([((48 * v33_) - v41_)])) ++ ((missTo E xs ys m).drop (q + 1))).length = ((0 + (q + 1)) + 1) + ((m - 1) - (q + 1))) := by show _ = _; rw [List.length_append, HL103_.out, HL105_.out]
              go_wp2
              go_roundw
              case rel => exact ⟨m + 1, g106_, c107_, by go_num, (slice_n (by omega)), by omega, by omega, (by omega), (by have e := G108_; have e2 := insD_at (x := (48 * v33_) - v41_) (missTo E xs ys m) (q + 1) (by rw [missTo_length]; omega) (fun i hi => Int.le_trans (show (48 * v33_) - v41_ ≤ v51_ by omega) (by rw [Hv51_.out]; exact desc_at _ (missTo_desc E xs ys m) i q (by omega) (by rw [missTo_length]; omega))) (fun hi => HJS.out (q + 1) (Nat.le_refl _) (by rw [missTo_length] at hi; omega)); rw [List.nil_append, ← e2] at e; simp only [missTo, if_neg (show ¬ m = 0 by omega), missOf]; rw [Hv33_.out, Hv41_.out]; exact e), B119_, (by first | omega | (simp; omega) | simp), o114_, o115_, a112_, a113_⟩
              case measure => simp [intOf] <;> omega
            · have HL105_k : (q + 1) ≤ (missTo E xs ys m).length := by have e := HL30_.out; omega
              have HL105_ : Hid (((missTo E xs ys m).drop (q + 1)).length = (m - 1) - (q + 1)) := by show _ = _; rw [List.length_drop, HL30_.out]
              go_upto_region 6 with (at_builtin; (refine append_gr (by rfl) _ _ (by rfl) (xs := ((([] : List Int) ++ ((missTo E xs ys m).take (q + 1))) ++ ([((48 * v33_) - v41_)]))) (ys := ((missTo E xs ys m).drop (q + 1))) (by rfl) (by have e := HL103_.out; omega) G90_ (by rfl) (by have e := HL105_.out; omega) (drop_read0 o98_.ints.read) (by omega) ?_; intro g106_ c107_ w108 G108_ hC109_ hg110_))
              have a112_ := (hC109_.cell (p := ⟨w.heap.size, _, none⟩) (by first | omega | (simp; omega) | simp) (by first | omega | (simp; omega))).trans a94_
              have a113_ := (hC109_.cell (p := ⟨w.heap.size, _, none⟩) (by first | omega | (simp; omega) | simp) (by first | omega | (simp; omega))).trans a95_
              have o114_ := o96_.chg hC109_ (by first | omega | (simp; omega) | simp) (by omega)
              have o115_ := o97_.chg hC109_ (by first | omega | (simp; omega) | simp) (by omega)
              have o116_ := o98_.chg hC109_ (by omega)
              have o117_ := o99_.chg hC109_ (by omega)
              have z118_ := hC109_.size
              have B119_ := B101_.trans (hC109_.below (by omega) (by first | omega | (simp; omega) | simp))
              clear hC109_
              have l120_ := G108_.lt
              have HL121_ : Hid ((((([] : List Int) ++ ((missTo E xs ys m).take (q + 1))) ++ ([((48 * v33_) - v41_)])) ++ ((missTo E xs ys m).drop (q + 1))).length = ((0 + (q + 1)) + 1) + ((m - 1) - (q + 1))) := by show _ = _; rw [List.length_append, HL103_.out, HL105_.out]
              go_wp2
              go_roundw
              case rel => exact ⟨m + 1, g106_, c107_, by go_num, (slice_n (by omega)), by omega, by omega, (by omega), (by have e := G108_; have e2 := insD_at (x := (48 * v33_) - v41_) (missTo E xs ys m) (q + 1) (by rw [missTo_length]; omega) (fun i hi => Int.le_trans (show (48 * v33_) - v41_ ≤ v51_ by omega) (by rw [Hv51_.out]; exact desc_at _ (missTo_desc E xs ys m) i q (by omega) (by rw [missTo_length]; omega))) (fun hi => HJS.out (q + 1) (Nat.le_refl _) (by rw [missTo_length] at hi; omega)); rw [List.nil_append, ← e2] at e; simp only [missTo, if_neg (show ¬ m = 0 by omega), missOf]; rw [Hv33_.out, Hv41_.out]; exact e), B119_, (by first | omega | (simp; omega) | simp), o114_, o115_, a112_, a113_⟩
              case measure => simp [intOf] <;> omega
        · obtain rfl : j = 0 := by omega
          have o50_ := k45_.alloc (by first | omega | (simp; omega) | simp) (.cells #[] 3)
          have o51_ := k46_.alloc (by first | omega | (simp; omega) | simp) (.cells #[] 3)
          have o52_ := k47_.alloc (.cells #[] 3)
          have a53_ := cell_alloc (o := (.cells #[] 3)) k48_ (by first | omega | (simp; omega) | simp)
          have a54_ := cell_alloc (o := (.cells #[] 3)) k49_ (by first | omega | (simp; omega) | simp)
          have B55_ := k43_.alloc (by first | omega | (simp; omega) | simp) (.cells #[] 3)
          have G56_ : Grow (w42.alloc (.cells #[] 3)) (w42.heap.size) 0 ([] : List Int) := by have e := grow_lit w42 ([] : List Int) (by simp); (try simp only [hsz] at e); exact e
          have l57_ := G56_.lt
          have HL58_ : Hid (([] : List Int).length = 0) := rfl
          have HL59_k : 0 ≤ (missTo E xs ys m).length := by have e := HL30_.out; omega
          have HL59_ : Hid (((missTo E xs ys m).take 0).length = 0) := by show _ = _; rw [List.length_take]; omega
          go_upto_region 12 with (at_builtin; (refine append_gr (by rfl) _ _ (by rfl) (xs := ([] : List Int)) (ys := ((missTo E xs ys m).take 0)) (by rfl) (by have e := HL58_.out; omega) G56_ (by rfl) (by have e := HL59_.out; omega) (take_read o52_.ints.read HL59_k) (by omega) ?_; intro g60_ c61_ w62 G62_ hC63_ hg64_))
          have a66_ := (hC63_.cell (p := ⟨w.heap.size, _, none⟩) (by first | omega | (simp; omega) | simp) (by first | omega | (simp; omega))).trans a53_
          have a67_ := (hC63_.cell (p := ⟨w.heap.size, _, none⟩) (by first | omega | (simp; omega) | simp) (by first | omega | (simp; omega))).trans a54_
          have o68_ := o50_.chg hC63_ (by first | omega | (simp; omega) | simp) (by omega)
          have o69_ := o51_.chg hC63_ (by first | omega | (simp; omega) | simp) (by omega)
          have o70_ := o52_.chg hC63_ (by omega)
          have z71_ := hC63_.size
          try simp at z71_
          have B72_ := B55_.trans (hC63_.below (by omega) (by first | omega | (simp; omega) | simp))
          clear hC63_
          have l73_ := G62_.lt
          have HL74_ : Hid ((([] : List Int) ++ ((missTo E xs ys m).take 0)).length = 0 + 0) := by show _ = _; rw [List.length_append, HL58_.out, HL59_.out]
          have o75_ := o68_.alloc (by first | omega | (simp; omega) | simp) (.cells #[.int .i64 ((48 * v33_) - v41_)] 3)
          have o76_ := o69_.alloc (by first | omega | (simp; omega) | simp) (.cells #[.int .i64 ((48 * v33_) - v41_)] 3)
          have o77_ := o70_.alloc (.cells #[.int .i64 ((48 * v33_) - v41_)] 3)
          have o78_ := G62_.alloc (.cells #[.int .i64 ((48 * v33_) - v41_)] 3)
          have a79_ := cell_alloc (o := (.cells #[.int .i64 ((48 * v33_) - v41_)] 3)) a66_ (by first | omega | (simp; omega) | simp)
          have a80_ := cell_alloc (o := (.cells #[.int .i64 ((48 * v33_) - v41_)] 3)) a67_ (by first | omega | (simp; omega) | simp)
          have B81_ := B72_.alloc (by first | omega | (simp; omega) | simp) (.cells #[.int .i64 ((48 * v33_) - v41_)] 3)
          have G82_ : Grow (w62.alloc (.cells #[.int .i64 ((48 * v33_) - v41_)] 3)) (w62.heap.size) 1 [((48 * v33_) - v41_)] := by have e := grow_lit w62 [((48 * v33_) - v41_)] (by simp); (try simp only [hsz] at e); exact e
          have l83_ := G82_.lt
          have HL84_ : Hid ([((48 * v33_) - v41_)].length = 1) := rfl
          go_upto_region 13 with (at_builtin; (refine append_gr (by rfl) _ _ (by rfl) (xs := (([] : List Int) ++ ((missTo E xs ys m).take 0))) (ys := ([((48 * v33_) - v41_)])) (by rfl) (by have e := HL74_.out; omega) o78_ (by rfl) (by have e := HL84_.out; omega) (G82_.ints.read) (by omega) ?_; intro g85_ c86_ w87 G87_ hC88_ hg89_))
          have a91_ := (hC88_.cell (p := ⟨w.heap.size, _, none⟩) (by first | omega | (simp; omega) | simp) (by first | omega | (simp; omega))).trans a79_
          have a92_ := (hC88_.cell (p := ⟨w.heap.size, _, none⟩) (by first | omega | (simp; omega) | simp) (by first | omega | (simp; omega))).trans a80_
          have o93_ := o75_.chg hC88_ (by first | omega | (simp; omega) | simp) (by omega)
          have o94_ := o76_.chg hC88_ (by first | omega | (simp; omega) | simp) (by omega)
          have o95_ := o77_.chg hC88_ (by omega)
          have o96_ := G82_.chg hC88_ (by omega)
          have z97_ := hC88_.size
          try simp at z97_
          have B98_ := B81_.trans (hC88_.below (by omega) (by first | omega | (simp; omega) | simp))
          clear hC88_
          have l99_ := G87_.lt
          have HL100_ : Hid (((([] : List Int) ++ ((missTo E xs ys m).take 0)) ++ ([((48 * v33_) - v41_)])).length = (0 + 0) + 1) := by show _ = _; rw [List.length_append, HL74_.out, HL84_.out]
          have HL101_k : 0 ≤ (missTo E xs ys m).length := by have e := HL30_.out; omega
          have HL101_ : Hid (((missTo E xs ys m).drop 0).length = (m - 1) - 0) := by show _ = _; rw [List.length_drop, HL30_.out]
          go_upto_region 6 with (at_builtin; (refine append_gr (by rfl) _ _ (by rfl) (xs := ((([] : List Int) ++ ((missTo E xs ys m).take 0)) ++ ([((48 * v33_) - v41_)]))) (ys := ((missTo E xs ys m).drop 0)) (by rfl) (by have e := HL100_.out; omega) G87_ (by rfl) (by have e := HL101_.out; omega) (drop_read0 o95_.ints.read) (by omega) ?_; intro g102_ c103_ w104 G104_ hC105_ hg106_))
          have a108_ := (hC105_.cell (p := ⟨w.heap.size, _, none⟩) (by first | omega | (simp; omega) | simp) (by first | omega | (simp; omega))).trans a91_
          have a109_ := (hC105_.cell (p := ⟨w.heap.size, _, none⟩) (by first | omega | (simp; omega) | simp) (by first | omega | (simp; omega))).trans a92_
          have o110_ := o93_.chg hC105_ (by first | omega | (simp; omega) | simp) (by omega)
          have o111_ := o94_.chg hC105_ (by first | omega | (simp; omega) | simp) (by omega)
          have o112_ := o95_.chg hC105_ (by omega)
          have o113_ := o96_.chg hC105_ (by omega)
          have z114_ := hC105_.size
          have B115_ := B98_.trans (hC105_.below (by omega) (by first | omega | (simp; omega) | simp))
          clear hC105_
          have l116_ := G104_.lt
          have HL117_ : Hid ((((([] : List Int) ++ ((missTo E xs ys m).take 0)) ++ ([((48 * v33_) - v41_)])) ++ ((missTo E xs ys m).drop 0)).length = ((0 + 0) + 1) + ((m - 1) - 0)) := by show _ = _; rw [List.length_append, HL100_.out, HL101_.out]
          go_wp2
          go_roundw
          case rel => exact ⟨m + 1, g102_, c103_, by go_num, (slice_n (by omega)), by omega, by omega, (by omega), (by have e := G104_; have e2 := insD_at (x := (48 * v33_) - v41_) (missTo E xs ys m) 0 (by rw [missTo_length]; omega) (fun i hi => absurd hi (by omega)) (fun hi => HJS.out 0 (Nat.le_refl _) (by rw [missTo_length] at hi; omega)); rw [List.nil_append, ← e2] at e; simp only [missTo, if_neg (show ¬ m = 0 by omega), missOf]; rw [Hv33_.out, Hv41_.out]; exact e), B115_, (by first | omega | (simp; omega) | simp), o110_, o111_, a108_, a109_⟩
          case measure => simp [intOf] <;> omega
    · have hme : 2 ^ ys.length - 1 = m := by have e : ((2 ^ ys.length : Nat) : Int) = (m : Int) + 1 := (by rw [Int.natCast_pow]; simp; omega); omega
      go_wp2
      go_ret
      (refine retInts_grow G23_ (by omega) ?_ k24_; first | rfl | simp [missTo_length])

set_option maxRecDepth 10000 in
set_option maxHeartbeats 400000 in
theorem specMissRow_no (E : Int) (A : Option Addr) (c : Nat) (xs : List Int) (D : Option Addr) (d : Nat) (ys : List Int) (w : World) (lo hi : Nat) (h : Ints w lo hi A xs) (hh : hi ≤ w.heap.size) (hl : xs.length ≤ 1152921504606846976) (lo' hi' : Nat) (h' : Ints w lo' hi' D ys) (hh' : hi' ≤ w.heap.size) (hl' : ys.length ≤ 1152921504606846976) (hok : awardsB E xs ys = false) :
    Calls Try.prog 28 #[.agg #[.int .i64 E, .slice A xs.length c], .slice D ys.length d] w (RetInts w []) := by
  have HOK := Lib.hid hok
  clear hok
  go_enter Try.func28, Try.ntmps28
  have o1_ := h.alloc (by first | omega | (simp; omega) | simp) (.cells #[.int .i64 E, .slice A xs.length c] 25)
  have o2_ := h'.alloc (by first | omega | (simp; omega) | simp) (.cells #[.int .i64 E, .slice A xs.length c] 25)
  have B3_ := (Below.refl w.heap.size w).alloc (Nat.le_refl _) (.cells #[.int .i64 E, .slice A xs.length c] 25)
  have a4_ : (w.alloc (.cells #[.int .i64 E, .slice A xs.length c] 25)).cell? ⟨w.heap.size, 0, none⟩ = some (.int .i64 E) := by simp [go_sem]
  have a5_ : (w.alloc (.cells #[.int .i64 E, .slice A xs.length c] 25)).cell? ⟨w.heap.size, 1, none⟩ = some (.slice A xs.length c) := by simp [go_sem]
  have o6_ := o1_.alloc (by first | omega | (simp; omega) | simp) (.cells #[] 3)
  have o7_ := o2_.alloc (by first | omega | (simp; omega) | simp) (.cells #[] 3)
  have a8_ := cell_alloc (o := (.cells #[] 3)) a4_ (by first | omega | (simp; omega) | simp)
  have a9_ := cell_alloc (o := (.cells #[] 3)) a5_ (by first | omega | (simp; omega) | simp)
  have B10_ := B3_.alloc (by first | omega | (simp; omega) | simp) (.cells #[] 3)
  have G11_ : Grow ((w.alloc (.cells #[.int .i64 E, .slice A xs.length c] 25)).alloc (.cells #[] 3)) (w.heap.size + 1) 0 ([] : List Int) := by have e := grow_lit (w.alloc (.cells #[.int .i64 E, .slice A xs.length c] 25)) ([] : List Int) (by simp); (try simp only [hsz] at e); exact e
  have l12_ := G11_.lt
  have HL13_ : Hid (([] : List Int).length = 0) := rfl
  go_wp2_with fail
  refine (specAwardsOk_any E A c xs D d ys _ _ _ o6_ (by first | omega | (simp; omega) | simp) hl _ _ o7_ (by first | omega | (simp; omega) | simp) hl').mono ?_
  rintro e w14 ⟨he, hb14_⟩
  rw [HOK.out] at he
  subst he
  have a15_ := (hb14_.cell (p := ⟨w.heap.size, _, none⟩) (by first | omega | (simp; omega) | simp)).trans a8_
  have a16_ := (hb14_.cell (p := ⟨w.heap.size, _, none⟩) (by first | omega | (simp; omega) | simp)).trans a9_
  have o17_ := o6_.below hb14_ (by first | omega | (simp; omega) | simp)
  have o18_ := o7_.below hb14_ (by first | omega | (simp; omega) | simp)
  have o19_ := G11_.below hb14_ (by first | omega | (simp; omega) | simp)
  have z20_ := hb14_.size
  try simp at z20_
  have B21_ := B10_.trans (hb14_.mono (by first | omega | (simp; omega) | simp))
  clear hb14_
  go_wp2
  go_ret
  (refine retInts_grow o19_ (by omega) ?_ B21_; rfl)

theorem specMissRow_any (E : Int) (A : Option Addr) (c : Nat) (xs : List Int) (D : Option Addr) (d : Nat) (ys : List Int) (w : World) (lo hi : Nat) (h : Ints w lo hi A xs) (hh : hi ≤ w.heap.size) (hl : xs.length ≤ 1152921504606846976) (lo' hi' : Nat) (h' : Ints w lo' hi' D ys) (hh' : hi' ≤ w.heap.size) (hl' : ys.length ≤ 1152921504606846976) :
    Calls Try.prog 28 #[.agg #[.int .i64 E, .slice A xs.length c], .slice D ys.length d] w (RetInts w (missRow E xs ys)) := by
  by_cases hok : awardsB E xs ys = true
  · rw [missRow, if_pos hok]; exact specMissRow_yes E A c xs D d ys w lo hi h hh hl lo' hi' h' hh' hl' hok
  · have hok' : awardsB E xs ys = false := by simpa using hok
    rw [missRow, if_neg hok]; exact specMissRow_no E A c xs D d ys w lo hi h hh hl lo' hi' h' hh' hl' hok'


end Go.Proofs.Ythhcjomfpjopdaa
