/-
  The claims in parts are new memory, each 48 times the claim. No condition but small numbers.
-/
import Derived.Test.YtilhholjbjhaeaaEven
import Derived.Deep.RegionHeld3
namespace Go.Proofs.Ytilhholjbjhaeaa
open Go.RowKit

set_option maxRecDepth 10000 in
set_option maxHeartbeats 1000000 in
theorem inParts_any (A : Option Addr) (c : Nat) (xs : List Int) (w : World) (lo hi : Nat) (h : Ints w lo hi A xs) (hh : hi ≤ w.heap.size) (hs : Small xs) :
    Calls Try.prog 35 #[.slice A xs.length c] w (RetInts w (inP xs)) := by
  obtain ⟨i0, hi0, hq0, hq1, hq2⟩ := info_parts info_int
  have hlen := hs.1
  have hRl : (inP xs).length = xs.length := inP_length xs
  have HRl := Lib.hid hRl
  clear hRl
  go_enter Try.func35, Try.ntmps35
  go_wp2_with (at_make; refine wpList_make_full _ rfl _ _ _ rfl w.heap.size 3 i0 _ 1 Try.underlying29 hi0 hq0 hq1 .i64 .i64 xs.length xs.length xs.length rfl rfl rfl rfl (by rw [hq2]; omega) (by unfold maxLen; omega) (Nat.le_refl _) ?_; intro wm hownm hgrowm; have bm : Below w.heap.size w wm := (Below.refl _ _).grown hgrowm (Nat.le_refl _) (by intro k hk; cases hk); have hownm' := fill_start (R := inP xs) HRl.out hownm; clear hownm hgrowm; have zm := bm.size)
  go_loopw [11] (fun i wr => ∃ k : Nat, k ≤ xs.length ∧ i = .int .i64 k ∧ wr.ownsRow w.heap.size 3 1 (.slice (some ⟨w.heap.size, 0, none⟩) xs.length xs.length) xs.length (ints (fillTo (inP xs) k)) ∧ Below w.heap.size w wr) (fun i _ => xs.length - (intOf i).toNat)
  case atStart => exact ⟨0, Nat.zero_le _, rfl, hownm', bm⟩
  case round =>
    obtain ⟨k, hk, rfl, hown, hbel⟩ := hrel
    clear hownm' bm
    have zr := hbel.size
    by_cases hlt : k < xs.length
    · obtain ⟨b, o, rfl, _, hbh, hc⟩ := (h.below hbel hh).at_ hlt
      have hv := small_at xs hs k hlt
      obtain ⟨hd, hf⟩ := fill_cell hown HRl.out hlt
      have hst := fill_more hown (by rw [HRl.out]; exact hlt) (48 * xs[k]) (inP_at xs k hlt)
      have hbel' := hbel.setCell (p := ⟨w.heap.size, k, none⟩) (Nat.le_refl _) (.int .i64 (48 * xs[k]))
      have H := Lib.hid (And.intro hst hbel')
      clear hst hbel' hown hbel
      go_wp2
      go_roundw
      case rel => exact ⟨k + 1, by omega, by go_num, H.out.1, H.out.2⟩
      case measure => simp [intOf]; omega
    · obtain rfl : k = xs.length := by omega
      have how := fill_end hown HRl.out
      have H := Lib.hid (And.intro how hbel)
      clear how hown hbel
      go_wp2
      go_ret
      exact ⟨some ⟨w.heap.size, 0, none⟩, xs.length, by rw [HRl.out]; rfl, H.out.1, H.out.2⟩

end Go.Proofs.Ytilhholjbjhaeaa
