/-
  Both functions ShareRow return each claim times the estate, and make new memory only.
-/
import Derived.Test.YtakmbpdapdnniaaCaseOk
import Derived.Test.YtakmbpdapdnniaaLeast
import Derived.Deep.RegionHeld3
import Derived.Deep.AppendLies
namespace Go.Proofs.Ytakmbpdapdnniaa
open Go.RowKit

/-- Each claim times the estate. -/
def shareRow (E : Int) (xs : List Int) : List Int := xs.map fun x => x * E
theorem shareRow_length (E : Int) (xs : List Int) : (shareRow E xs).length = xs.length := by simp [shareRow]
theorem shareRow_at (E : Int) (xs : List Int) (k : Nat) (h : k < xs.length) : (shareRow E xs)[k]'(by rw [shareRow_length]; exact h) = xs[k] * E := by simp [shareRow]
def shares (E : Int) (xs : List Int) : List Int := if caseOkB E xs = true then shareRow E xs else []
theorem shares_len (E : Int) (xs : List Int) : (shares E xs).length ≤ xs.length := by unfold shares; split <;> simp [shareRow_length]
theorem mul_bd {a b A B : Int} (h1 : 0 ≤ a) (h2 : a ≤ A) (h3 : 0 ≤ b) (h4 : b ≤ B) : 0 ≤ a * b ∧ a * b ≤ A * B :=
  ⟨Int.mul_nonneg h1 h3, Int.mul_le_mul h2 h4 h3 (by omega)⟩
theorem share_bd {E : Int} {xs : List Int} (h : caseOkB E xs = true) (k : Nat) (hk : k < xs.length) : 0 ≤ xs[k] * E ∧ xs[k] * E ≤ 576 := by
  have h1 := caseOk_bd h
  have h2 : 0 ≤ xs[k] ∧ xs[k] ≤ 12 := ((caseOk_iff E xs).1 h).2.2.1 _ (List.getElem_mem hk)
  have h3 := mul_bd (A := 12) (B := 48) h2.1 h2.2 h1.2.2.1 (by omega)
  exact h3

set_option maxRecDepth 10000 in
set_option maxHeartbeats 1000000 in
theorem implShareRow_yes (E : Int) (A : Option Addr) (c : Nat) (xs : List Int) (w : World) (lo hi : Nat) (h : Ints w lo hi A xs) (hh : hi ≤ w.heap.size) (hok : caseOkB E xs = true) :
    Calls Try.prog 19 #[.agg #[.int .i64 E, .slice A xs.length c]] w (RetInts w (shareRow E xs)) := by
  obtain ⟨i0, hi0, hq0, hq1, hq2⟩ := info_parts info_int
  have hs := caseOk_small hok
  have hbd := caseOk_bd hok
  have HO := Lib.hid hok
  clear hok
  have k0 := h.alloc hh (.cells #[.int .i64 E, .slice A xs.length c] 25)
  have a0 := new2 w (.int .i64 E) (.slice A xs.length c) 25
  have B0 := (Below.refl w.heap.size w).alloc (Nat.le_refl _) (.cells #[.int .i64 E, .slice A xs.length c] 25)
  go_enter Try.func19, Try.ntmps19
  go_wp2_with fail
  refine (implCaseOk_yes E A c xs _ _ _ k0 (by rw [hsz]; omega) (by omega) HO.out).mono ?_
  rintro e w1 ⟨rfl, hb1⟩
  rw [hsz] at hb1
  obtain ⟨a1, a1'⟩ := keep2 hb1 a0 (by omega)
  have k1 := k0.below hb1 (by omega)
  have hz1 : w.heap.size + 1 ≤ w1.heap.size := by rw [← hsz w (.cells #[.int .i64 E, .slice A xs.length c] 25)]; exact hb1.size
  have B1 := B0.trans (hb1.mono (by omega))
  clear hb1 a0 k0 h B0
  have hz1' : hi ≤ w1.heap.size := by omega
  have hRl : (shareRow E xs).length = xs.length := shareRow_length E xs
  have HRl := Lib.hid hRl
  clear hRl
  go_wp2_with (at_make; refine wpList_make_full _ rfl _ _ _ rfl w1.heap.size 3 i0 _ 1 Try.underlying23 hi0 hq0 hq1 .i64 .i64 xs.length xs.length xs.length rfl rfl rfl rfl (by rw [hq2]; omega) (by unfold maxLen; omega) (Nat.le_refl _) ?_; intro wm hownm hgrowm; have bm : Below w1.heap.size w1 wm := (Below.refl _ _).grown hgrowm (Nat.le_refl _) (by intro k hk; cases hk); have hownm' := fill_start (R := shareRow E xs) HRl.out hownm; clear hownm hgrowm; obtain ⟨am, am'⟩ := keep2 bm ⟨a1, a1'⟩ (by omega); have zm := bm.size)
  go_loopw [16] (fun i wr => ∃ k : Nat, k ≤ xs.length ∧ i = .int .i64 k ∧ wr.ownsRow w1.heap.size 3 1 (.slice (some ⟨w1.heap.size, 0, none⟩) xs.length xs.length) xs.length (ints (fillTo (shareRow E xs) k)) ∧ Below w1.heap.size w1 wr) (fun i _ => xs.length - (intOf i).toNat)
  case atStart => exact ⟨0, Nat.zero_le _, rfl, hownm', bm⟩
  case round =>
    obtain ⟨k, hk, rfl, hown, hbel⟩ := hrel
    clear hownm' bm
    obtain ⟨ar, ar'⟩ := keep2 hbel ⟨a1, a1'⟩ (by omega)
    have zr := hbel.size
    by_cases hlt : k < xs.length
    · obtain ⟨b, o, rfl, _, hbh, hc⟩ := (k1.below hbel (by omega)).at_ hlt
      have hv := share_bd HO.out k hlt
      obtain ⟨P, hP⟩ : ∃ P, xs[k] * E = P := ⟨_, rfl⟩
      rw [hP] at hv
      have hwP : IntKind.i64.wrap P = P := IntWalk.i64_in _ (by omega)
      obtain ⟨hd, hf⟩ := fill_cell hown HRl.out hlt
      have hst := fill_more hown (by rw [HRl.out]; exact hlt) P (by rw [shareRow_at E xs k hlt]; exact hP)
      have hbel' := hbel.setCell (p := ⟨w1.heap.size, k, none⟩) (Nat.le_refl _) (.int .i64 P)
      have H := Lib.hid (And.intro hst hbel')
      clear hst hbel' hown hbel
      go_wp2
      go_roundw
      case rel => exact ⟨k + 1, by omega, by go_num, H.out.1, H.out.2⟩
      case measure => simp [intOf]; omega
    · obtain rfl : k = xs.length := by omega
      have how := fill_end hown HRl.out
      have Br := B1.trans (hbel.mono (by omega))
      have H := Lib.hid (And.intro how Br)
      clear how Br hown hbel
      go_wp2
      go_ret
      exact ⟨some ⟨w1.heap.size, 0, none⟩, xs.length, by rw [HRl.out]; rfl, H.out.1.more (by omega) (Nat.le_refl _), H.out.2⟩

set_option maxRecDepth 10000 in
set_option maxHeartbeats 400000 in
theorem implShareRow_no (E : Int) (A : Option Addr) (c : Nat) (xs : List Int) (w : World) (lo hi : Nat) (h : Ints w lo hi A xs) (hh : hi ≤ w.heap.size) (hl : xs.length ≤ 1152921504606846976) (hok : caseOkB E xs = false) :
    Calls Try.prog 19 #[.agg #[.int .i64 E, .slice A xs.length c]] w (RetInts w []) := by
  have HO := Lib.hid hok
  clear hok
  have k0 := h.alloc hh (.cells #[.int .i64 E, .slice A xs.length c] 25)
  have B0 := (Below.refl w.heap.size w).alloc (Nat.le_refl _) (.cells #[.int .i64 E, .slice A xs.length c] 25)
  go_enter Try.func19, Try.ntmps19
  go_wp2_with fail
  refine (implCaseOk_no E A c xs _ _ _ k0 (by rw [hsz]; omega) hl HO.out).mono ?_
  rintro e w1 ⟨rfl, hb1⟩
  rw [hsz] at hb1
  have B1 := B0.trans (hb1.mono (by omega))
  clear hb1
  go_wp2
  go_ret
  exact ⟨none, 0, rfl, Own.nil, B1⟩

theorem implShareRow_any (E : Int) (A : Option Addr) (c : Nat) (xs : List Int) (w : World) (lo hi : Nat) (h : Ints w lo hi A xs) (hh : hi ≤ w.heap.size) (hl : xs.length ≤ 1152921504606846976) :
    Calls Try.prog 19 #[.agg #[.int .i64 E, .slice A xs.length c]] w (RetInts w (shares E xs)) := by
  by_cases hok : caseOkB E xs = true
  · have e := implShareRow_yes E A c xs w lo hi h hh hok
    simpa [shares, hok] using e
  · have hok' : caseOkB E xs = false := by simpa using hok
    have e := implShareRow_no E A c xs w lo hi h hh hl hok'
    simpa [shares, hok'] using e

end Go.Proofs.Ytakmbpdapdnniaa
