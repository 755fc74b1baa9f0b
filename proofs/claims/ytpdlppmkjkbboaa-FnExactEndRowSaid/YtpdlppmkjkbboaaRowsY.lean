/-
  How great rows of rows are together; and that the same ones are alike. No condition but lengths that fit.
-/
import Derived.Test.YtpdlppmkjkbboaaRowsX
import Derived.Test.YtpdlppmkjkbboaaFx
import Derived.BigQuiet
import Derived.Deep.RegionHeld3
import Derived.Deep.Cut
namespace Go.Proofs.Ytpdlppmkjkbboaa
open Go.RowKit

def lenTo (B : List (List Int)) : Nat → Nat
  | 0 => 0
  | k + 1 => lenTo B k + (B.getD k []).length
theorem lenTo_le {B : List (List Int)} {i j : Nat} (h : i ≤ j) : lenTo B i ≤ lenTo B j := by
  obtain ⟨d, rfl⟩ : ∃ d, j = i + d := ⟨j - i, by omega⟩
  induction d with
  | zero => exact Nat.le_refl _
  | succ d ih =>
    have e := ih (by omega)
    show _ ≤ lenTo B (i + d) + _
    omega
/-- How many rows and numbers there are. -/
def tot (B : List (List Int)) : Nat := B.length + lenTo B B.length
/-- What szIntSS returns. -/
def szR (B : List (List Int)) : Int := if tot B ≤ 1048576 then 1048576 - (tot B : Int) else -1
theorem szR_yes {B : List (List Int)} (h : ¬ szR B < 0) : tot B ≤ 1048576 := by
  unfold szR at h
  split at h
  · assumption
  · omega
theorem szR_no {B : List (List Int)} (h : szR B < 0) : ¬ tot B ≤ 1048576 := by
  unfold szR at h
  split at h
  · omega
  · assumption
theorem tot_rows {B : List (List Int)} (h : tot B ≤ 1048576) : B.length ≤ 1048576 ∧ ∀ k, (B.getD k []).length ≤ 1048576 := by
  unfold tot at h
  refine ⟨by omega, fun k => ?_⟩
  by_cases hk : k < B.length
  · have e := lenTo_le (B := B) (show k + 1 ≤ B.length by omega)
    have e2 : lenTo B (k + 1) = lenTo B k + (B.getD k []).length := rfl
    omega
  · have q : B.getD k [] = [] := by simp [List.getD, List.getElem?_eq_none (Nat.le_of_not_lt hk)]
    rw [q]; simp

set_option maxRecDepth 10000 in
set_option maxHeartbeats 1000000 in
theorem szIntSS_any (A : Option Addr) (c : Nat) (B : List (List Int)) (w : World) (lo hi : Nat) (h : Grid w lo hi A B) (hl : B.length ≤ 9223372036854775807) (hr : ∀ k, (B.getD k []).length ≤ 9223372036854775807) :
    Calls Try.prog 37 #[.slice A B.length c, .int .i64 1048576] w fun e w' => e = .returned (.int .i64 (szR B)) ∧ w = w' := by
  have HR := Lib.hid hr
  clear hr
  go_enter Try.func37, Try.ntmps37
  by_cases h1_ : (1048576 - (B.length : Int)) < 0
  · have h1_d : decide ((1048576 - (B.length : Int)) < 0) = true := decide_eq_true h1_
    go_wp2
    go_ret
    exact ⟨ret_int (by symm; rw [szR, if_neg (by unfold tot; omega)]), rfl⟩
  · have h1_d : decide ((1048576 - (B.length : Int)) < 0) = false := decide_eq_false h1_
    go_wp2
    go_loop [1, 5] (fun lf ii => ∃ k : Nat, ∃ L : Int, lf = .int .i64 L ∧ ii = .int .i64 k ∧ (k ≤ B.length) ∧ (0 ≤ L) ∧ (L = (1048576 : Int) - (B.length : Int) - (lenTo B k : Int))) (fun lf ii => B.length - (intOf ii).toNat)
    case atStart => exact ⟨0, (1048576 : Int) - (B.length : Int), rfl, rfl, Nat.zero_le _, by omega, by show _ = _ - ((0 : Nat) : Int); omega⟩
    case round =>
      obtain ⟨k, L, rfl, rfl, hk, hL, hlf⟩ := hrel
      have HLF := Lib.hid hlf
      have hlf9 : L ≤ 1048576 := by omega
      clear hlf
      by_cases hlt0 : k < B.length
      · obtain ⟨b2_, f3_, rfl, _, b2_h, -⟩ := h (by omega)
        obtain ⟨D4_, d5_, c6_, F7_, rm9_⟩ := h.at_ k (by omega)
        obtain ⟨y8_, hy8_⟩ : ∃ y_, B.getD k [] = y_ := ⟨_, rfl⟩
        rw [hy8_] at c6_ F7_ rm9_
        have hqy8_ := HR.out k
        rw [hy8_] at hqy8_
        have Hy8_ := Lib.hid hy8_
        clear hy8_
        have c6_ : w.cell? ⟨b2_, f3_ + k, none⟩ = some (.slice D4_ y8_.length d5_) := c6_
        have c6_i : (k : Int) < (B.length : Int) := by omega
        have c6_j : (0 : Int) ≤ (k : Int) := by omega
        by_cases h10_ : (y8_.length : Int) ≤ L
        · have H10_ := Lib.hid h10_
          clear h10_
          have hf9 := H10_.out
          go_wp2_with fail
          refine (szIntS_yes D4_ d5_ y8_.length L _ (by omega) (by omega)).mono ?_
          rintro e w11 ⟨rfl, rfl⟩
          have h12_ : ¬ ((L - (y8_.length : Int)) < 0) := by omega
          have h12_d : decide ((L - (y8_.length : Int)) < 0) = false := decide_eq_false h12_
          go_wp2
          go_round
          case rel => exact ⟨k + 1, (L - (y8_.length : Int)), by rfl, by go_num, by omega, by omega, (by have e := HLF.out; show _ = (1048576 : Int) - _ - ((lenTo B k + (B.getD k []).length : Nat) : Int); rw [Hy8_.out]; omega)⟩
          case measure => simp [intOf] <;> omega
        · have H10_ := Lib.hid h10_
          clear h10_
          have hf9 := H10_.out
          go_wp2_with fail
          refine (szIntS_no D4_ d5_ y8_.length L _ (by omega) (by omega) (by omega)).mono ?_
          rintro e w11 ⟨rfl, rfl⟩
          go_wp2
          go_ret
          exact ⟨ret_int (by symm; rw [szR, if_neg (fun q => by have e := lenTo_le (B := B) (show k + 1 ≤ B.length by omega); have e2 : lenTo B (k + 1) = lenTo B k + y8_.length := (by show lenTo B k + _ = _; rw [Hy8_.out]); have e3 := HLF.out; unfold tot at q; omega)]), rfl⟩
      · obtain rfl : k = B.length := by omega
        go_wp2
        go_ret
        exact ⟨ret_int (by symm; have e := HLF.out; have e2 : tot B = B.length + lenTo B B.length := rfl; rw [szR, if_pos (by omega)]; omega), rfl⟩

set_option maxRecDepth 10000 in
set_option maxHeartbeats 1000000 in
theorem eqIntSS_same (A D : Option Addr) (c d : Nat) (B : List (List Int)) (w : World) (lo hi lo' hi' : Nat) (h : Grid w lo hi A B) (hh : hi ≤ w.heap.size) (h' : Grid w lo' hi' D B) (hh' : hi' ≤ w.heap.size) (hl : B.length ≤ 1048576) (hr : ∀ k, (B.getD k []).length ≤ 1048576) :
    Calls Try.prog 39 #[.slice A B.length c, .slice D B.length d] w fun e w' => e = .returned (.bool true) ∧ Below w.heap.size w w' := by
  have HR := Lib.hid hr
  clear hr
  have Htrue : Hid True := trivial
  go_enter Try.func39, Try.ntmps39
  go_wp2
  go_loopw [5] (fun ii wr => ∃ k : Nat, ii = .int .i64 k ∧ (k ≤ B.length) ∧ Below w.heap.size w wr ∧ w.heap.size ≤ wr.heap.size ∧ Grid wr (lo) (hi) A B ∧ Grid wr (lo') (hi') D B) (fun ii _ => B.length - (intOf ii).toNat)
  case atStart => exact ⟨0, rfl, Nat.zero_le _, (Below.refl w.heap.size w), (by first | omega | (simp; omega) | simp), h, h'⟩
  case round =>
    obtain ⟨k, rfl, hk, k2_, k3_, k4_, k5_⟩ := hrel
    obtain ⟨w1, rfl⟩ : ∃ x, x = wr := ⟨_, rfl⟩
    by_cases hlt0 : k < B.length
    · obtain ⟨b6_, f7_, rfl, _, b6_h, -⟩ := k4_ (by omega)
      obtain ⟨D8_, d9_, c10_, F11_, rm13_⟩ := k4_.at_ k (by omega)
      obtain ⟨y12_, hy12_⟩ : ∃ y_, B.getD k [] = y_ := ⟨_, rfl⟩
      rw [hy12_] at c10_ F11_ rm13_
      have hqy12_ := HR.out k
      rw [hy12_] at hqy12_
      have Hy12_ := Lib.hid hy12_
      clear hy12_
      have c10_ : w1.cell? ⟨b6_, f7_ + k, none⟩ = some (.slice D8_ y12_.length d9_) := c10_
      have c10_i : (k : Int) < (B.length : Int) := by omega
      have c10_j : (0 : Int) ≤ (k : Int) := by omega
      obtain ⟨b14_, f15_, rfl, _, b14_h, -⟩ := k5_ (by omega)
      obtain ⟨D16_, d17_, c18_, F19_, rm21_⟩ := k5_.at_ k (by omega)
      rw [Hy12_.out] at c18_ F19_ rm21_
      have c18_ : w1.cell? ⟨b14_, f15_ + k, none⟩ = some (.slice D16_ y12_.length d17_) := c18_
      have c18_i : (k : Int) < (B.length : Int) := by omega
      have c18_j : (0 : Int) ≤ (k : Int) := by omega
      have g28_ : hi ≤ w1.heap.size := (by first | omega | (simp; omega) | simp)
      have g29_ : hi' ≤ w1.heap.size := (by first | omega | (simp; omega) | simp)
      have g30_ : hi ≤ w1.heap.size := (by first | omega | (simp; omega) | simp)
      have g31_ : hi' ≤ w1.heap.size := (by first | omega | (simp; omega) | simp)
      have g32_ : b6_ < w1.heap.size := (by first | omega | (simp; omega) | simp)
      have g33_ : b14_ < w1.heap.size := (by first | omega | (simp; omega) | simp)
      have g34_ : w.heap.size ≤ w1.heap.size := (by first | omega | (simp; omega) | simp)
      go_wp2_with fail
      refine wp_region_held_drew (S := (fun w' : World => Below w.heap.size w w' ∧ w1.heap.size ≤ w'.heap.size ∧ Grid w' (lo) (hi) (some ⟨b6_, f7_, none⟩) B ∧ Grid w' (lo') (hi') (some ⟨b14_, f15_, none⟩) B ∧ Ints w' (lo) (hi) D8_ y12_ ∧ Ints w' (lo') (hi') D16_ y12_ ∧ w'.cell? ⟨b6_, f7_ + k, none⟩ = some (.slice D8_ y12_.length d9_) ∧ w'.cell? ⟨b14_, f15_ + k, none⟩ = some (.slice D16_ y12_.length d17_) ∧ w1.heap.size ≤ w'.heap.size)) (by kernel_rfl) ⟨k2_.drew, by exact (by first | omega | (simp; omega) | simp), k4_, k5_, F11_, F19_, c10_, c18_, Nat.le_refl _⟩ (fun hHeld => ?_)
      refine wpAnyH_take (i := 0) (oi := ?oi1) (v := ?vv1) ?hi1 ?hs1 ?hf1 ?ha1 ?hq1 ?hy1 hHeld ?hr1
      case hi1 => (simp only [List.getElem?_toArray, List.getElem?_cons_zero]; exact rfl)
      case hs1 => kernel_rfl
      case hf1 => kernel_rfl
      case ha1 => kernel_rfl
      case hq1 => exact fun _ _ _ h => h
      case hy1 =>
        refine Or.inl ⟨by rfl, ?_⟩
        intro w' hSw
        try dsimp only at hSw
        go_simp
        first | done | with_reducible rfl
      simp only [Act.put, List.setIfInBounds_toArray, List.set_cons_succ, List.set_cons_zero]
      refine wpAnyH_take (i := 1) (oi := ?oi2) (v := ?vv2) ?hi2 ?hs2 ?hf2 ?ha2 ?hq2 ?hy2 hHeld ?hr2
      case hi2 => (simp only [List.getElem?_toArray, List.getElem?_cons_succ, List.getElem?_cons_zero]; exact rfl)
      case hs2 => kernel_rfl
      case hf2 => kernel_rfl
      case ha2 => kernel_rfl
      case hq2 => exact fun _ _ _ h => h
      case hy2 =>
        refine Or.inl ⟨by rfl, ?_⟩
        intro w' hSw
        try dsimp only at hSw
        go_simp
        first | done | with_reducible rfl
      simp only [Act.put, List.setIfInBounds_toArray, List.set_cons_succ, List.set_cons_zero]
      refine wpAnyH_take (i := 2) (oi := ?oi3) (v := ?vv3) ?hi3 ?hs3 ?hf3 ?ha3 ?hq3 ?hy3 hHeld ?hr3
      case hi3 => (simp only [List.getElem?_toArray, List.getElem?_cons_succ, List.getElem?_cons_zero]; exact rfl)
      case hs3 => kernel_rfl
      case hf3 => kernel_rfl
      case ha3 => kernel_rfl
      case hq3 => exact fun _ _ _ h => h
      case hy3 =>
        refine Or.inl ⟨by rfl, ?_⟩
        intro w' hSw
        try dsimp only at hSw
        go_simp
        first | done | with_reducible rfl
      simp only [Act.put, List.setIfInBounds_toArray, List.set_cons_succ, List.set_cons_zero]
      refine wpAnyH_take (i := 3) (oi := ?oi4) (v := ?vv4) ?hi4 ?hs4 ?hf4 ?ha4 ?hq4 ?hy4 hHeld ?hr4
      case hi4 => (simp only [List.getElem?_toArray, List.getElem?_cons_succ, List.getElem?_cons_zero]; exact rfl)
      case hs4 => kernel_rfl
      case hf4 => kernel_rfl
      case ha4 => kernel_rfl
      case hq4 => exact fun _ _ _ h => h
      case hy4 =>
        refine Or.inl ⟨by rfl, ?_⟩
        intro w' hSw
        try dsimp only at hSw
        go_simp
        first | done | with_reducible rfl
      simp only [Act.put, List.setIfInBounds_toArray, List.set_cons_succ, List.set_cons_zero]
      refine wpAnyH_take (i := 4) (oi := ?oi5) (v := ?vv5) ?hi5 ?hs5 ?hf5 ?ha5 ?hq5 ?hy5 hHeld ?hr5
      case hi5 => (simp only [List.getElem?_toArray, List.getElem?_cons_succ, List.getElem?_cons_zero]; exact rfl)
      case hs5 => kernel_rfl
      case hf5 => kernel_rfl
      case ha5 => kernel_rfl
      case hq5 => exact fun _ _ _ h => h
      case hy5 =>
        refine Or.inl ⟨by rfl, ?_⟩
        intro w' hSw
        try dsimp only at hSw
        go_simp
        first | done | with_reducible rfl
      simp only [Act.put, List.setIfInBounds_toArray, List.set_cons_succ, List.set_cons_zero]
      refine wpAnyH_take (i := 5) (oi := ?oi6) (v := ?vv6) ?hi6 ?hs6 ?hf6 ?ha6 ?hq6 ?hy6 hHeld ?hr6
      case hi6 => (simp only [List.getElem?_toArray, List.getElem?_cons_succ, List.getElem?_cons_zero]; exact rfl)
      case hs6 => kernel_rfl
      case hf6 => kernel_rfl
      case ha6 => kernel_rfl
      case hq6 => exact fun _ _ _ h => h
      case hy6 =>
        refine Or.inl ⟨by rfl, ?_⟩
        intro w' hSw
        try dsimp only at hSw
        go_simp
        first | done | with_reducible rfl
      simp only [Act.put, List.setIfInBounds_toArray, List.set_cons_succ, List.set_cons_zero]
      refine wpAnyH_take (i := 6) (oi := ?oi7) (v := ?vv7) ?hi7 ?hs7 ?hf7 ?ha7 ?hq7 ?hy7 hHeld ?hr7
      case hi7 => (simp only [List.getElem?_toArray, List.getElem?_cons_succ, List.getElem?_cons_zero]; exact rfl)
      case hs7 => kernel_rfl
      case hf7 => kernel_rfl
      case ha7 => kernel_rfl
      case hq7 => exact fun _ _ _ h => h
      case hy7 =>
        refine Or.inl ⟨by rfl, ?_⟩
        intro w' hSw
        try dsimp only at hSw
        go_simp
        first | done | with_reducible rfl
      simp only [Act.put, List.setIfInBounds_toArray, List.set_cons_succ, List.set_cons_zero]
      refine wpAnyH_take (i := 7) (oi := ?oi8) (v := ?vv8) ?hi8 ?hs8 ?hf8 ?ha8 ?hq8 ?hy8 hHeld ?hr8
      case hi8 => (simp only [List.getElem?_toArray, List.getElem?_cons_succ, List.getElem?_cons_zero]; exact rfl)
      case hs8 => kernel_rfl
      case hf8 => kernel_rfl
      case ha8 => kernel_rfl
      case hq8 => exact fun _ _ _ h => h
      case hy8 =>
        refine Or.inl ⟨by rfl, ?_⟩
        intro w' hSw
        try dsimp only at hSw
        go_simp
        first | done | with_reducible rfl
      simp only [Act.put, List.setIfInBounds_toArray, List.set_cons_succ, List.set_cons_zero]
      refine wpAnyH_ready (rs := [8]) (by kernel_rfl) (by simp) ?_
      refine AllReadyH.cons rfl (fun K hK => ?_) AllReadyH.nil
      go_simp
      go_at_call 40
      obtain ⟨BB, zz, k22_, k23_, k24_, k25_, q26_, q27_, zw⟩ := hHeld
      (with_reducible refine (eqIntS_same D8_ D16_ d9_ d17_ y12_ _ _ _ _ _ k24_ k25_ (by omega)).mono ?_)
      rintro e w35 ⟨rfl, hb9⟩
      refine hK.out _ _ ⟨BB.trans (hb9.mono (by omega)), Nat.le_trans zz hb9.size, k22_.below hb9 (by first | omega | (simp; omega) | simp), k23_.below hb9 (by first | omega | (simp; omega) | simp), k24_.below hb9 (by first | omega | (simp; omega) | simp), k25_.below hb9 (by first | omega | (simp; omega) | simp), (hb9.cell (by show b6_ < _; omega)).trans q26_, (hb9.cell (by show b14_ < _; omega)).trans q27_, Nat.le_trans zw hb9.size⟩ (fun hHeld => ?_)
      clear hb9 zw q27_ q26_ k25_ k24_ k23_ k22_ zz BB
      clear hK K
      try simp only [Act.put, List.setIfInBounds_toArray, List.set_cons_zero, List.set_cons_succ]
      refine wpAnyH_take (i := 9) (oi := ?oi9) (v := ?vv9) ?hi9 ?hs9 ?hf9 ?ha9 ?hq9 ?hy9 hHeld ?hr9
      case hi9 => (simp only [List.getElem?_toArray, List.getElem?_cons_succ, List.getElem?_cons_zero]; exact rfl)
      case hs9 => kernel_rfl
      case hf9 => kernel_rfl
      case ha9 => kernel_rfl
      case hq9 => exact fun _ _ _ h => h
      case hy9 =>
        refine Or.inl ⟨by rfl, ?_⟩
        intro w' hSw
        try dsimp only at hSw
        go_simp
        first | done | with_reducible rfl
      simp only [Act.put, List.setIfInBounds_toArray, List.set_cons_succ, List.set_cons_zero]
      refine wpAnyH_done (by kernel_rfl) ?_ _
      obtain ⟨BB, zz, k22_, k23_, k24_, k25_, q26_, q27_, zw⟩ := hHeld
      have k36_ := BB
      clear BB
      have k37_ := zz
      clear zz
      have k38_ := zw
      clear zw
      go_wp2
      go_roundw
      case rel => exact ⟨k + 1, by go_num, by omega, k36_, (by first | omega | (simp; omega) | simp), k22_, k23_⟩
      case measure => simp [intOf] <;> omega
    · go_wp2
      go_ret
      exact ⟨rfl, k2_⟩


end Go.Proofs.Ytpdlppmkjkbboaa
