/-
  Both functions LossesOf return the losses, and make new memory only.
-/
import Derived.Test.YtilhholjbjhaeaaAwardsOk
import Derived.Test.YtilhholjbjhaeaaLeast
import Derived.Deep.RegionHeld3
import Derived.Deep.AppendLies
namespace Go.Proofs.Ytilhholjbjhaeaa
open Go.RowKit

def lossesRow (xs ys : List Int) : List Int := List.zipWith (fun x y => 48 * x - y) xs ys
theorem lossesRow_length {xs ys : List Int} (h : ys.length = xs.length) : (lossesRow xs ys).length = ys.length := by simp [lossesRow]; omega
theorem lossesRow_at {xs ys : List Int} (k : Nat) (h1 : k < xs.length) (h2 : k < ys.length) : (lossesRow xs ys)[k]'(by simp [lossesRow]; omega) = 48 * xs[k] - ys[k] := by simp [lossesRow]
noncomputable def losses (E : Int) (xs ys : List Int) : List Int := if awardsB E xs ys = true then lossesRow xs ys else []
theorem losses_len (E : Int) (xs ys : List Int) : (losses E xs ys).length ≤ xs.length := by
  unfold losses
  split
  · simp [lossesRow]; omega
  · simp

set_option maxRecDepth 10000 in
set_option maxHeartbeats 1000000 in
theorem implLossesOf_yes (E : Int) (A : Option Addr) (c : Nat) (xs : List Int) (D : Option Addr) (d : Nat) (ys : List Int) (w : World) (lo hi : Nat) (h : Ints w lo hi A xs) (hh : hi ≤ w.heap.size) (hl : xs.length ≤ 1152921504606846976)
    (lo' hi' : Nat) (h' : Ints w lo' hi' D ys) (hh' : hi' ≤ w.heap.size) (hl' : ys.length ≤ 1152921504606846976) (hok : awardsB E xs ys = true) :
    Calls Try.prog 17 #[.agg #[.int .i64 E, .slice A xs.length c], .slice D ys.length d] w (RetInts w (lossesRow xs ys)) := by
  obtain ⟨i0, hi0, hq0, hq1, hq2⟩ := info_parts info_int
  have hA := (awardsB_iff E xs ys).1 hok
  have hbd := caseOk_bd hA.1
  have HC := Lib.hid hA.1
  have HN := Lib.hid hA.2.1
  have hy4 : ys.length ≤ 4 := by have e := hA.2.1; omega
  have hrg := Lib.hid (aw_range hA.1 hA.2.1 hA.2.2.1)
  have HO := Lib.hid hok
  clear hok hA
  have hRl := lossesRow_length HN.out
  have HRl := Lib.hid hRl
  clear hRl
  have k0 := h.alloc hh (.cells #[.int .i64 E, .slice A xs.length c] 31)
  have q0 := h'.alloc hh' (.cells #[.int .i64 E, .slice A xs.length c] 31)
  have a0 := new2 w (.int .i64 E) (.slice A xs.length c) 31
  have B0 := (Below.refl w.heap.size w).alloc (Nat.le_refl _) (.cells #[.int .i64 E, .slice A xs.length c] 31)
  go_enter Try.func17, Try.ntmps17
  go_wp2_with fail
  refine (implAwardsOk_any E A c xs D d ys _ _ _ k0 (by rw [hsz]; omega) hl _ _ q0 (by rw [hsz]; omega) hl').mono ?_
  rintro e w1 ⟨he1, hb1⟩
  rw [HO.out] at he1
  subst he1
  rw [hsz] at hb1
  obtain ⟨a1, a1'⟩ := keep2 hb1 a0 (by omega)
  have k1 := k0.below hb1 (by omega)
  have q1 := q0.below hb1 (by omega)
  have hz1 : w.heap.size + 1 ≤ w1.heap.size := by rw [← hsz w (.cells #[.int .i64 E, .slice A xs.length c] 31)]; exact hb1.size
  have B1 := B0.trans (hb1.mono (by omega))
  clear hb1 a0 k0 q0 h h' B0
  have hRl : (lossesRow xs ys).length = ys.length := lossesRow_length HN.out
  have HRl := Lib.hid hRl
  clear hRl
  go_wp2_with (at_make; refine wpList_make_full _ rfl _ _ _ rfl w1.heap.size 3 i0 _ 1 Try.underlying29 hi0 hq0 hq1 .i64 .i64 ys.length ys.length ys.length rfl rfl rfl rfl (by rw [hq2]; omega) (by unfold maxLen; omega) (Nat.le_refl _) ?_; intro wm hownm hgrowm; have bm : Below w1.heap.size w1 wm := (Below.refl _ _).grown hgrowm (Nat.le_refl _) (by intro k hk; cases hk); have hownm' := fill_start (R := lossesRow xs ys) HRl.out hownm; clear hownm hgrowm; obtain ⟨am, am'⟩ := keep2 bm ⟨a1, a1'⟩ (by omega); have zm := bm.size)
  go_loopw [17] (fun i wr => ∃ k : Nat, k ≤ ys.length ∧ i = .int .i64 k ∧ wr.ownsRow w1.heap.size 3 1 (.slice (some ⟨w1.heap.size, 0, none⟩) ys.length ys.length) ys.length (ints (fillTo (lossesRow xs ys) k)) ∧ Below w1.heap.size w1 wr) (fun i _ => ys.length - (intOf i).toNat)
  case atStart => exact ⟨0, Nat.zero_le _, rfl, hownm', bm⟩
  case round =>
    obtain ⟨k, hk, rfl, hown, hbel⟩ := hrel
    clear hownm' bm
    obtain ⟨ar, ar'⟩ := keep2 hbel ⟨a1, a1'⟩ (by omega)
    have zr := hbel.size
    by_cases hlt : k < ys.length
    · have hlt2 : k < xs.length := by have := HN.out; omega
      obtain ⟨b, o, rfl, _, hbh, hc⟩ := (k1.below hbel (by omega)).at_ hlt2
      obtain ⟨b', o', rfl, _, hbh', hc'⟩ := (q1.below hbel (by omega)).at_ hlt
      have hv := case_at HC.out k hlt2
      have hvy := hrg.out _ (List.getElem_mem hlt)
      obtain ⟨hd, hf⟩ := fill_cell hown HRl.out hlt
      have hst := fill_more hown (by rw [HRl.out]; exact hlt) (48 * xs[k] - ys[k]) (lossesRow_at k hlt2 hlt)
      have hbel' := hbel.setCell (p := ⟨w1.heap.size, k, none⟩) (Nat.le_refl _) (.int .i64 (48 * xs[k] - ys[k]))
      have H := Lib.hid (And.intro hst hbel')
      clear hst hbel' hown hbel
      go_wp2
      go_roundw
      case rel => exact ⟨k + 1, by omega, by go_num, H.out.1, H.out.2⟩
      case measure => simp [intOf]; omega
    · obtain rfl : k = ys.length := by omega
      have how := fill_end hown HRl.out
      have Br := B1.trans (hbel.mono (by omega))
      have H := Lib.hid (And.intro how Br)
      clear how Br hown hbel
      go_wp2
      go_ret
      exact ⟨some ⟨w1.heap.size, 0, none⟩, ys.length, by rw [HRl.out]; rfl, H.out.1.more (by omega) (Nat.le_refl _), H.out.2⟩

set_option maxRecDepth 10000 in
set_option maxHeartbeats 400000 in
theorem implLossesOf_no (E : Int) (A : Option Addr) (c : Nat) (xs : List Int) (D : Option Addr) (d : Nat) (ys : List Int) (w : World) (lo hi : Nat) (h : Ints w lo hi A xs) (hh : hi ≤ w.heap.size) (hl : xs.length ≤ 1152921504606846976)
    (lo' hi' : Nat) (h' : Ints w lo' hi' D ys) (hh' : hi' ≤ w.heap.size) (hl' : ys.length ≤ 1152921504606846976) (hok : awardsB E xs ys = false) :
    Calls Try.prog 17 #[.agg #[.int .i64 E, .slice A xs.length c], .slice D ys.length d] w (RetInts w []) := by
  have HO := Lib.hid hok
  clear hok
  have k0 := h.alloc hh (.cells #[.int .i64 E, .slice A xs.length c] 31)
  have q0 := h'.alloc hh' (.cells #[.int .i64 E, .slice A xs.length c] 31)
  have B0 := (Below.refl w.heap.size w).alloc (Nat.le_refl _) (.cells #[.int .i64 E, .slice A xs.length c] 31)
  go_enter Try.func17, Try.ntmps17
  go_wp2_with fail
  refine (implAwardsOk_any E A c xs D d ys _ _ _ k0 (by rw [hsz]; omega) hl _ _ q0 (by rw [hsz]; omega) hl').mono ?_
  rintro e w1 ⟨he1, hb1⟩
  rw [HO.out] at he1
  subst he1
  rw [hsz] at hb1
  have B1 := B0.trans (hb1.mono (by omega))
  clear hb1
  go_wp2
  go_ret
  exact ⟨none, 0, rfl, Own.nil, B1⟩

theorem implLossesOf_any (E : Int) (A : Option Addr) (c : Nat) (xs : List Int) (D : Option Addr) (d : Nat) (ys : List Int) (w : World) (lo hi : Nat) (h : Ints w lo hi A xs) (hh : hi ≤ w.heap.size) (hl : xs.length ≤ 1152921504606846976)
    (lo' hi' : Nat) (h' : Ints w lo' hi' D ys) (hh' : hi' ≤ w.heap.size) (hl' : ys.length ≤ 1152921504606846976) :
    Calls Try.prog 17 #[.agg #[.int .i64 E, .slice A xs.length c], .slice D ys.length d] w (RetInts w (losses E xs ys)) := by
  by_cases hok : awardsB E xs ys = true
  · have e := implLossesOf_yes E A c xs D d ys w lo hi h hh hl lo' hi' h' hh' hl' hok
    simpa [losses, hok] using e
  · have hok' : awardsB E xs ys = false := by simpa using hok
    have e := implLossesOf_no E A c xs D d ys w lo hi h hh hl lo' hi' h' hh' hl' hok'
    simpa [losses, hok'] using e

end Go.Proofs.Ytilhholjbjhaeaa
