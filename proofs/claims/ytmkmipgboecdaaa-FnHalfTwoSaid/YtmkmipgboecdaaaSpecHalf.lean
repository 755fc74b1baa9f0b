/-
  HalfAwards, MidOk and HalfLevel of the given package: what they return of each case, and of what is none; they make new memory only. No condition but a length that fits.
-/
import Derived.Test.YtmkmipgboecdaaaGE
import Derived.Test.YtmkmipgboecdaaaHalf
import Derived.BigQuiet
namespace Go.Proofs.Ytmkmipgboecdaaa
open Go.RowKit

theorem half_part {E : Int} {xs : List Int} (h : caseOkB E xs = true) : partB (halfP xs) = true := by
  have h1 := (caseOk_iff E xs).1 h
  refine (partB_iff _).2 ⟨by rw [halfP_length]; omega, by rw [halfP_length]; omega, fun x hx => ?_⟩
  have := halfP_rg h x hx
  omega
def halfAws (E : Int) (xs : List Int) : List Int := if caseOkB E xs = true then halfAw E xs else []
def halfLvl (E : Int) (xs : List Int) : Int := if caseOkB E xs = true then halfLv E xs else -1
theorem halfAws_len (E : Int) (xs : List Int) : (halfAws E xs).length ≤ xs.length := by
  unfold halfAws; split
  · rw [halfAw_length]; exact Nat.le_refl _
  · simp

set_option maxRecDepth 10000 in
set_option maxHeartbeats 800000 in
theorem l2Half_any (A : Option Addr) (c : Nat) (xs : List Int) (w : World) (lo hi : Nat) (h : Ints w lo hi A xs) (hh : hi ≤ w.heap.size) (hs : Small xs) :
    Calls Try.prog 98 #[.slice A xs.length c, .int .i64 24] w (RetInts w (halfP xs)) := by
  obtain ⟨i0, hi0, hz0, hz1, hz2⟩ := info_parts info_int
  have hl := hs.1
  have HRl := Lib.hid (halfP_length xs)
  have hB0 : (w.alloc (.cells #[] 3)).ownsRow w.heap.size 3 1 (.slice (some ⟨w.heap.size, 0, none⟩) 0 0) ((halfP xs).take 0).length (ints ((halfP xs).take 0)) := World.ownsRow_made w #[] 0 (Nat.le_refl _) (by unfold maxLen; omega) rfl
  have hb0 := (Below.refl w.heap.size w).alloc (Nat.le_refl _) (.cells #[] 3)
  go_enter Try.func98, Try.ntmps98
  go_wp2
  go_loopw [5, 6] (fun v i wr => ∃ k : Nat, k ≤ xs.length ∧ i = .int .i64 k ∧ wr.ownsRow w.heap.size 3 1 v ((halfP xs).take k).length (ints ((halfP xs).take k)) ∧ Below w.heap.size w wr) (fun _ i _ => xs.length - (intOf i).toNat)
  case atStart => exact ⟨0, Nat.zero_le _, rfl, hB0, hb0⟩
  case round =>
    obtain ⟨k, hk, rfl, hown, hbel⟩ := hrel
    clear hB0 hb0
    have hbs := hbel.size
    by_cases hlt : k < xs.length
    · obtain ⟨b, o, rfl, _, hbh, hc0⟩ := h.at_ hlt
      have hc : wr.cell? ⟨b, o + k, none⟩ = some (.int .i64 xs[k]) := (hbel.cell (by show b < _; omega)).trans hc0
      have hv := small_at xs hs k hlt
      have hlen : ((halfP xs).take k).length = k := by rw [List.length_take, HRl.out]; omega
      rw [hlen] at hown
      clear hlen hc0
      have HV := Lib.hid (halfP_at xs k hlt)
      have hA := hown.alloc (.cells #[.int .i64 (xs[k] * 24)] 3)
      go_wp2_with (at_builtin; refine wpList_append_own _ rfl _ _ 23 rfl w.heap.size 3 i0 (.int .i64 0) 1 8 Try.underlying23 hi0 hz0 hz1 hz2 rfl (by decide) _ _ _ rfl hA ⟨wr.heap.size, 0, none⟩ 1 1 [.int .i64 (xs[k] * 24)] rfl rfl (news_one _ _ _) (one_cell _) (by unfold maxLen; omega) (by omega) (by simp; omega) ?_; intro v1 w1 hown1 hgrow1 _)
      have hn := append_one (R := halfP xs) (k := k) (by rw [HRl.out]; exact hlt) _ (HV.out.trans (Int.mul_comm _ _)) rfl hown1
      have hb1 := (hbel.alloc hbs (.cells #[.int .i64 (xs[k] * 24)] 3)).grown hgrow1 (by simp; omega) (fun g hg => ((hown.lt g hg).1))
      have H := Lib.hid (And.intro hn hb1)
      clear hn hb1 hown1 hgrow1 hown hA hbel
      go_wp2
      go_roundw
      case rel => exact ⟨k + 1, by omega, by go_num, H.out.1, H.out.2⟩
      case measure => simp [intOf]; omega
    · obtain rfl : k = xs.length := by omega
      have he : (halfP xs).take xs.length = halfP xs := by rw [← HRl.out]; exact List.take_length
      rw [he] at hown
      have H := Lib.hid (And.intro hown hbel)
      clear hown hbel he
      go_wp2
      go_ret
      obtain ⟨A', c', e1, _, ho⟩ := own_of_row H.out.1
      exact ⟨A', c', congrArg Ending.returned e1, ho, H.out.2⟩

def halfHi (E : Int) (xs : List Int) : List Int := lossesRow xs (lowAw (xs.sum - E) xs)
theorem halfHi_length (E : Int) (xs : List Int) : (halfHi E xs).length = xs.length := by rw [halfHi, lossesRow_length (lowAw_length _ _), lowAw_length]
theorem high_bd {E : Int} {xs : List Int} (h : caseOkB E xs = true) (hE : ¬ 2 * E ≤ xs.sum) (k : Nat) (hk : k < xs.length) : (0 ≤ xs[k] ∧ xs[k] ≤ 12) ∧ 0 ≤ (lowAw (xs.sum - E) xs)[k]'(by rw [lowAw_length]; exact hk) ∧ (lowAw (xs.sum - E) xs)[k]'(by rw [lowAw_length]; exact hk) ≤ 576 := by
  have e1 := case_at h k hk
  have e2 := lowLv_bd (other_ok h) (by omega)
  rw [lowAw_at _ xs k hk]
  omega

end Go.Proofs.Ytmkmipgboecdaaa
