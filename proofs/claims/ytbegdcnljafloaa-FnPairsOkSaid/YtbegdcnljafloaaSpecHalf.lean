/-
  HalfAwards, MidOk and HalfLevel of the given package: what they return of each case, and of what is none; they make new memory only. No condition but a length that fits.
-/
import Derived.Test.YtbegdcnljafloaaGE
import Derived.Test.YtbegdcnljafloaaHalf
import Derived.BigQuiet
namespace Go.Proofs.Ytbegdcnljafloaa
open Go.RowKit

theorem half_part {E : Int} {xs : List Int} (h : caseOkB E xs = true) : partB (halfP xs) = true := by
  have h1 := (caseOk_iff E xs).1 h
  refine (partB_iff _).2 ⟨by rw [halfP_length]; omega, by rw [halfP_length]; omega, fun x hx => ?_⟩
  have := halfP_rg h x hx
  omega
def halfAws (E : Int) (xs : List Int) : List Int := if caseOkB E xs = true then halfAw E xs else []
def halfLvl (E : Int) (xs : List Int) : Int := if caseOkB E xs = true then halfLv E xs else -1
theorem halfAws_len (E : Int) (xs : List Int) : (halfAws E xs).length ≤ xs.length := by
  unfold halfAws; split
  · rw [halfAw_length]; exact Nat.le_refl _
  · simp

set_option maxRecDepth 10000 in
set_option maxHeartbeats 800000 in
theorem l2Half_any (A : Option Addr) (c : Nat) (xs : List Int) (w : World) (lo hi : Nat) (h : Ints w lo hi A xs) (hh : hi ≤ w.heap.size) (hs : Small xs) :
    Calls Try.prog 69 #[.slice A xs.length c, .int .i64 24] w (RetInts w (halfP xs)) := by
  obtain ⟨i0, hi0, hz0, hz1, hz2⟩ := info_parts info_int
  have hl := hs.1
  have HRl := Lib.hid (halfP_length xs)
  have hB0 : (w.alloc (.cells #[] 3)).ownsRow w.heap.size 3 1 (.slice (some ⟨w.heap.size, 0, none⟩) 0 0) ((halfP xs).take 0).length (ints ((halfP xs).take 0)) := World.ownsRow_made w #[] 0 (Nat.le_refl _) (by unfold maxLen; omega) rfl
  have hb0 := (Below.refl w.heap.size w).alloc (Nat.le_refl _) (.cells #[] 3)
  go_enter Try.func69, Try.ntmps69
  go_wp2
  go_loopw [5, 6] (fun v i wr => ∃ k : Nat, k ≤ xs.length ∧ i = .int .i64 k ∧ wr.ownsRow w.heap.size 3 1 v ((halfP xs).take k).length (ints ((halfP xs).take k)) ∧ Below w.heap.size w wr) (fun _ i _ => xs.length - (intOf i).toNat)
  case atStart => exact ⟨0, Nat.zero_le _, rfl, hB0, hb0⟩
  case round =>
    obtain ⟨k, hk, rfl, hown, hbel⟩ := hrel
    clear hB0 hb0
    have hbs := hbel.size
    by_cases hlt : k < xs.length
    · obtain ⟨b, o, rfl, _, hbh, hc0⟩ := h.at_ hlt
      have hc : wr.cell? ⟨b, o + k, none⟩ = some (.int .i64 xs[k]) := (hbel.cell (by show b < _; omega)).trans hc0
      have hv := small_at xs hs k hlt
      have hlen : ((halfP xs).take k).length = k := by rw [List.length_take, HRl.out]; omega
      rw [hlen] at hown
      clear hlen hc0
      have HV := Lib.hid (halfP_at xs k hlt)
      have hA := hown.alloc (.cells #[.int .i64 (xs[k] * 24)] 3)
      go_wp2_with (at_builtin; refine wpList_append_own _ rfl _ _ 29 rfl w.heap.size 3 i0 (.int .i64 0) 1 8 Try.underlying29 hi0 hz0 hz1 hz2 rfl (by decide) _ _ _ rfl hA ⟨wr.heap.size, 0, none⟩ 1 1 [.int .i64 (xs[k] * 24)] rfl rfl (news_one _ _ _) (one_cell _) (by unfold maxLen; omega) (by omega) (by simp; omega) ?_; intro v1 w1 hown1 hgrow1 _)
      have hn := append_one (R := halfP xs) (k := k) (by rw [HRl.out]; exact hlt) _ (HV.out.trans (Int.mul_comm _ _)) rfl hown1
      have hb1 := (hbel.alloc hbs (.cells #[.int .i64 (xs[k] * 24)] 3)).grown hgrow1 (by simp; omega) (fun g hg => ((hown.lt g hg).1))
      have H := Lib.hid (And.intro hn hb1)
      clear hn hb1 hown1 hgrow1 hown hA hbel
      go_wp2
      go_roundw
      case rel => exact ⟨k + 1, by omega, by go_num, H.out.1, H.out.2⟩
      case measure => simp [intOf]; omega
    · obtain rfl : k = xs.length := by omega
      have he : (halfP xs).take xs.length = halfP xs := by rw [← HRl.out]; exact List.take_length
      rw [he] at hown
      have H := Lib.hid (And.intro hown hbel)
      clear hown hbel he
      go_wp2
      go_ret
      obtain ⟨A', c', e1, _, ho⟩ := own_of_row H.out.1
      exact ⟨A', c', congrArg Ending.returned e1, ho, H.out.2⟩

set_option maxRecDepth 10000 in
set_option maxHeartbeats 2000000 in
theorem specHalfAwards_low (E : Int) (A : Option Addr) (c : Nat) (xs : List Int) (w : World) (lo hi : Nat) (h : Ints w lo hi A xs) (hh : hi ≤ w.heap.size) (hok : caseOkB E xs = true) (hE : 2 * E ≤ xs.sum) :
    Calls Try.prog 48 #[.agg #[.int .i64 E, .slice A xs.length c]] w (RetInts w (lowAw E xs)) := by
  have hs := caseOk_small hok
  have hbd := caseOk_bd hok
  have HO := Lib.hid hok
  have HP := Lib.hid (half_part hok)
  have HI := Lib.hid (halfP_sum xs)
  clear hok
  have k0 := h.alloc hh (.cells #[.int .i64 E, .slice A xs.length c] 31)
  have a0 := new2 w (.int .i64 E) (.slice A xs.length c) 31
  have B0 := (Below.refl w.heap.size w).alloc (Nat.le_refl _) (.cells #[.int .i64 E, .slice A xs.length c] 31)
  go_enter Try.func48, Try.ntmps48
  go_wp2_with fail
  refine (specCaseOk_yes E A c xs _ _ _ k0 (by rw [hsz]; omega) (by omega) HO.out).mono ?_
  rintro e w1 ⟨rfl, hb1⟩
  rw [hsz] at hb1
  obtain ⟨a1, a1'⟩ := keep2 hb1 a0 (by omega)
  have k1 := k0.below hb1 (by omega)
  have z1 : w.heap.size + 1 ≤ w1.heap.size := by rw [← hsz w (.cells #[.int .i64 E, .slice A xs.length c] 31)]; exact hb1.size
  have B1 := B0.trans (hb1.mono (by omega))
  clear hb1 a0 k0 h B0
  go_wp2_with fail
  refine (l1Sum_any _ _ _ _ _ _ k1 hs).mono ?_
  rintro e w' ⟨rfl, rfl⟩
  have hw48 : IntKind.i64.wrap (48 * E) = 48 * E := IntWalk.i64_in _ (by omega)
  have hw2 : IntKind.i64.wrap (2 * E) = 2 * E := IntWalk.i64_in _ (by omega)
  go_wp2_with fail
  have hS0 : (fun w' : World => w'.cell? ⟨w.heap.size, 0, none⟩ = some (.int .i64 E) ∧ w'.cell? ⟨w.heap.size, 1, none⟩ = some (.slice A xs.length c) ∧ Ints w' lo hi A xs ∧ w1.heap.size ≤ w'.heap.size ∧ Below w.heap.size w w') w1.drew := ⟨a1, a1', k1, Nat.le_refl _, B1.drew⟩
  clear k1 B1 a1 a1'
  go_region_held3 (fun w' => w'.cell? ⟨w.heap.size, 0, none⟩ = some (.int .i64 E) ∧ w'.cell? ⟨w.heap.size, 1, none⟩ = some (.slice A xs.length c) ∧ Ints w' lo hi A xs ∧ w1.heap.size ≤ w'.heap.size ∧ Below w.heap.size w w') (first | assumption | exact hS0 | exact HS9 | go_keep)
    (first
      | (go_at_call 69
         obtain ⟨y0, y1, kc, zz, BB⟩ := (by assumption : (fun w' : World => w'.cell? ⟨w.heap.size, 0, none⟩ = some (.int .i64 E) ∧ w'.cell? ⟨w.heap.size, 1, none⟩ = some (.slice A xs.length c) ∧ Ints w' lo hi A xs ∧ w1.heap.size ≤ w'.heap.size ∧ Below w.heap.size w w') _)
         refine (l2Half_any A c xs _ lo hi kc (by omega) hs).mono ?_
         rintro e w2 ⟨A2, c2, rfl, ho2, hb2⟩
         have q2 := ho2.ints
         have HS9 : (fun w' : World => w'.cell? ⟨w.heap.size, 0, none⟩ = some (.int .i64 E) ∧ w'.cell? ⟨w.heap.size, 1, none⟩ = some (.slice A xs.length c) ∧ Ints w' lo hi A xs ∧ w1.heap.size ≤ w'.heap.size ∧ Below w.heap.size w w') w2 := ⟨(keep2 hb2 ⟨y0, y1⟩ (by omega)).1, (keep2 hb2 ⟨y0, y1⟩ (by omega)).2, kc.below hb2 (by omega), Nat.le_trans zz hb2.size, BB.trans (hb2.mono (by omega))⟩)
      | (go_at_call 68
         obtain ⟨y0, y1, kc, zz, BB⟩ := (by assumption : (fun w' : World => w'.cell? ⟨w.heap.size, 0, none⟩ = some (.int .i64 E) ∧ w'.cell? ⟨w.heap.size, 1, none⟩ = some (.slice A xs.length c) ∧ Ints w' lo hi A xs ∧ w1.heap.size ≤ w'.heap.size ∧ Below w.heap.size w w') _)
         refine (l2Even_any A2 c2 (halfP xs) (48 * (E)) _ _ _ q2 (Nat.le_refl _) HP.out (by omega) (by rw [HI.out]; omega)).mono ?_
         rintro e w3 ⟨A3, c3, rfl, ho3, hb3⟩
         have HS9 : (fun w' : World => w'.cell? ⟨w.heap.size, 0, none⟩ = some (.int .i64 E) ∧ w'.cell? ⟨w.heap.size, 1, none⟩ = some (.slice A xs.length c) ∧ Ints w' lo hi A xs ∧ w1.heap.size ≤ w'.heap.size ∧ Below w.heap.size w w') w3 := ⟨(keep2 hb3 ⟨y0, y1⟩ (by omega)).1, (keep2 hb3 ⟨y0, y1⟩ (by omega)).2, kc.below hb3 (by omega), Nat.le_trans zz hb3.size, BB.trans (hb3.mono (by omega))⟩
         have H := Lib.hid (And.intro (ho3.more (lo' := w.heap.size) (hi' := w3.heap.size) (by omega) (Nat.le_refl _)) HS9.2.2.2.2)))
  go_wp2
  go_ret
  exact ⟨A3, c3, rfl, H.out.1, H.out.2⟩

def halfHi (E : Int) (xs : List Int) : List Int := lossesRow xs (lowAw (xs.sum - E) xs)
theorem halfHi_length (E : Int) (xs : List Int) : (halfHi E xs).length = xs.length := by rw [halfHi, lossesRow_length (lowAw_length _ _), lowAw_length]
theorem high_bd {E : Int} {xs : List Int} (h : caseOkB E xs = true) (hE : ¬ 2 * E ≤ xs.sum) (k : Nat) (hk : k < xs.length) : (0 ≤ xs[k] ∧ xs[k] ≤ 12) ∧ 0 ≤ (lowAw (xs.sum - E) xs)[k]'(by rw [lowAw_length]; exact hk) ∧ (lowAw (xs.sum - E) xs)[k]'(by rw [lowAw_length]; exact hk) ≤ 576 := by
  have e1 := case_at h k hk
  have e2 := lowLv_bd (other_ok h) (by omega)
  rw [lowAw_at _ xs k hk]
  omega

set_option maxRecDepth 10000 in
set_option maxHeartbeats 4000000 in
theorem specHalfAwards_high (E : Int) (A : Option Addr) (c : Nat) (xs : List Int) (w : World) (lo hi : Nat) (h : Ints w lo hi A xs) (hh : hi ≤ w.heap.size) (hok : caseOkB E xs = true) (hE : ¬ 2 * E ≤ xs.sum) :
    Calls Try.prog 48 #[.agg #[.int .i64 E, .slice A xs.length c]] w (RetInts w (halfHi E xs)) := by
  obtain ⟨i0, hi0, hq0, hq1, hq2⟩ := info_parts info_int
  have hs := caseOk_small hok
  have hbd := caseOk_bd hok
  have HO := Lib.hid hok
  have HP := Lib.hid (half_part hok)
  have HI := Lib.hid (halfP_sum xs)
  have HC := Lib.hid (other_ok hok)
  have hrg := Lib.hid (fun k hk => high_bd hok hE k hk)
  clear hok
  have k0 := h.alloc hh (.cells #[.int .i64 E, .slice A xs.length c] 31)
  have a0 := new2 w (.int .i64 E) (.slice A xs.length c) 31
  have B0 := (Below.refl w.heap.size w).alloc (Nat.le_refl _) (.cells #[.int .i64 E, .slice A xs.length c] 31)
  go_enter Try.func48, Try.ntmps48
  go_wp2_with fail
  refine (specCaseOk_yes E A c xs _ _ _ k0 (by rw [hsz]; omega) (by omega) HO.out).mono ?_
  rintro e w1 ⟨rfl, hb1⟩
  rw [hsz] at hb1
  obtain ⟨a1, a1'⟩ := keep2 hb1 a0 (by omega)
  have k1 := k0.below hb1 (by omega)
  have z1 : w.heap.size + 1 ≤ w1.heap.size := by rw [← hsz w (.cells #[.int .i64 E, .slice A xs.length c] 31)]; exact hb1.size
  have B1 := B0.trans (hb1.mono (by omega))
  clear hb1 a0 k0 h B0
  go_wp2_with fail
  refine (l1Sum_any _ _ _ _ _ _ k1 hs).mono ?_
  rintro e w' ⟨rfl, rfl⟩
  have hw48 : IntKind.i64.wrap (48 * (xs.sum - E)) = 48 * (xs.sum - E) := IntWalk.i64_in _ (by omega)
  have hw1 : IntKind.i64.wrap (xs.sum - E) = xs.sum - E := IntWalk.i64_in _ (by omega)
  have hw2 : IntKind.i64.wrap (2 * E) = 2 * E := IntWalk.i64_in _ (by omega)
  go_wp2_with fail
  have hS0 : (fun w' : World => w'.cell? ⟨w.heap.size, 0, none⟩ = some (.int .i64 E) ∧ w'.cell? ⟨w.heap.size, 1, none⟩ = some (.slice A xs.length c) ∧ Ints w' lo hi A xs ∧ w1.heap.size ≤ w'.heap.size ∧ Below w.heap.size w w') w1.drew := ⟨a1, a1', k1, Nat.le_refl _, B1.drew⟩
  clear k1 B1 a1 a1'
  go_region_held3 (fun w' => w'.cell? ⟨w.heap.size, 0, none⟩ = some (.int .i64 E) ∧ w'.cell? ⟨w.heap.size, 1, none⟩ = some (.slice A xs.length c) ∧ Ints w' lo hi A xs ∧ w1.heap.size ≤ w'.heap.size ∧ Below w.heap.size w w') (first | assumption | exact hS0 | exact HS9 | go_keep)
    (first
      | (go_at_call 69
         obtain ⟨y0, y1, kc, zz, BB⟩ := (by assumption : (fun w' : World => w'.cell? ⟨w.heap.size, 0, none⟩ = some (.int .i64 E) ∧ w'.cell? ⟨w.heap.size, 1, none⟩ = some (.slice A xs.length c) ∧ Ints w' lo hi A xs ∧ w1.heap.size ≤ w'.heap.size ∧ Below w.heap.size w w') _)
         refine (l2Half_any A c xs _ lo hi kc (by omega) hs).mono ?_
         rintro e w2 ⟨A2, c2, rfl, ho2, hb2⟩
         have q2 := ho2.ints
         have HS9 : (fun w' : World => w'.cell? ⟨w.heap.size, 0, none⟩ = some (.int .i64 E) ∧ w'.cell? ⟨w.heap.size, 1, none⟩ = some (.slice A xs.length c) ∧ Ints w' lo hi A xs ∧ w1.heap.size ≤ w'.heap.size ∧ Below w.heap.size w w') w2 := ⟨(keep2 hb2 ⟨y0, y1⟩ (by omega)).1, (keep2 hb2 ⟨y0, y1⟩ (by omega)).2, kc.below hb2 (by omega), Nat.le_trans zz hb2.size, BB.trans (hb2.mono (by omega))⟩)
      | (go_at_call 68
         obtain ⟨y0, y1, kc, zz, BB⟩ := (by assumption : (fun w' : World => w'.cell? ⟨w.heap.size, 0, none⟩ = some (.int .i64 E) ∧ w'.cell? ⟨w.heap.size, 1, none⟩ = some (.slice A xs.length c) ∧ Ints w' lo hi A xs ∧ w1.heap.size ≤ w'.heap.size ∧ Below w.heap.size w w') _)
         refine (l2Even_any A2 c2 (halfP xs) (48 * (xs.sum - E)) _ _ _ q2 (Nat.le_refl _) HP.out (by omega) (by rw [HI.out]; omega)).mono ?_
         rintro e w3 ⟨A3, c3, rfl, ho3, hb3⟩
         have HS9 : (fun w' : World => w'.cell? ⟨w.heap.size, 0, none⟩ = some (.int .i64 E) ∧ w'.cell? ⟨w.heap.size, 1, none⟩ = some (.slice A xs.length c) ∧ Ints w' lo hi A xs ∧ w1.heap.size ≤ w'.heap.size ∧ Below w.heap.size w w') w3 := ⟨(keep2 hb3 ⟨y0, y1⟩ (by omega)).1, (keep2 hb3 ⟨y0, y1⟩ (by omega)).2, kc.below hb3 (by omega), Nat.le_trans zz hb3.size, BB.trans (hb3.mono (by omega))⟩
         have H := Lib.hid (And.intro (ho3.more (lo' := w.heap.size) (hi' := w3.heap.size) (by omega) (Nat.le_refl _)) HS9.2.2.2.2)))
  obtain ⟨y0, y1, kc, zz, BB⟩ := HS9
  have z3 : w1.heap.size ≤ w3.heap.size := zz
  have hE2 : evenOf (halfP xs) (48 * (xs.sum - E)) = lowAw (xs.sum - E) xs := rfl
  rw [hE2] at ho3
  have k4 := kc.alloc (by omega) (.cells #[] 3)
  have q4 := ho3.ints.alloc (Nat.le_refl _) (.cells #[] 3)
  have a4 := keep2 ((Below.refl w3.heap.size w3).alloc (Nat.le_refl _) (.cells #[] 3)) ⟨y0, y1⟩ (by omega)
  have B4 := BB.alloc (by omega) (.cells #[] 3)
  have hR0 : (w3.alloc (.cells #[] 3)).ownsRow w3.heap.size 3 1 (.slice (some ⟨w3.heap.size, 0, none⟩) 0 0) ((halfHi E xs).take 0).length (ints ((halfHi E xs).take 0)) := World.ownsRow_made w3 #[] 0 (Nat.le_refl _) (by unfold maxLen; omega) rfl
  have z4 := hsz w3 (.cells #[] 3)
  have HN := Lib.hid (lowAw_length (xs.sum - E) xs)
  have HRl := Lib.hid (halfHi_length E xs)
  clear kc BB zz y0 y1 ho3 H hE2 hb3 q2 ho2 hb2
  go_wp2
  obtain ⟨w4, hW4⟩ : ∃ W, W = w3.alloc (.cells #[] 3) := ⟨_, rfl⟩
  rw [← hW4] at k4 q4 a4 B4 hR0 z4
  try rw [← hW4]
  clear hW4
  obtain ⟨a5, a5'⟩ := a4
  go_loopw [10, 11] (fun v i wr => ∃ k g cap : Nat, k ≤ xs.length ∧ i = .int .i64 k ∧ v = .slice (some ⟨g, 0, none⟩) k cap ∧ (g = w3.heap.size ∨ w4.heap.size ≤ g) ∧ wr.ownsRow w3.heap.size 3 1 (.slice (some ⟨g, 0, none⟩) k cap) k (ints ((halfHi E xs).take k)) ∧ Chg w3.heap.size (w3.heap.size + 1) w4 wr) (fun _ i _ => xs.length - (intOf i).toNat)
  case atStart => exact ⟨0, w3.heap.size, 0, Nat.zero_le _, rfl, rfl, .inl rfl, by simpa using hR0, Chg.refl _ _ _⟩
  case round =>
    obtain ⟨k, g, cap, hk, rfl, rfl, hg, hown, hch⟩ := hrel
    obtain ⟨wo, rfl⟩ : ∃ x, x = wr := ⟨_, rfl⟩
    clear hR0
    have zo := hch.size
    obtain ⟨ao, ao'⟩ := keep2c hch ⟨a5, a5'⟩ (by omega) (by omega)
    by_cases hlt : k < xs.length
    · obtain ⟨b, o, rfl, hbl, hbh, hc⟩ := (k4.chg hch (by omega) (.inl (by omega))).at_ hlt
      obtain ⟨b', o', rfl, hbl', hbh', hc'⟩ := (q4.chg hch (by omega) (.inl (by omega))).at_ (by rw [HN.out]; exact hlt)
      have hV : (halfHi E xs)[k]'(by rw [HRl.out]; exact hlt) = 48 * xs[k] - (lowAw (xs.sum - E) xs)[k]'(by rw [HN.out]; exact hlt) := lossesRow_at k hlt (by rw [HN.out]; exact hlt)
      have HV := Lib.hid hV
      have hv := hrg.out k hlt
      clear hV
      generalize (lowAw (xs.sum - E) xs)[k]'(by rw [HN.out]; exact hlt) = y at hc' HV hv
      generalize xs[k] = x at hc HV hv
      have hw1 : IntKind.i64.wrap (48 * x) = 48 * x := IntWalk.i64_in _ (by omega)
      have hw2 : IntKind.i64.wrap (48 * x - y) = 48 * x - y := IntWalk.i64_in _ (by omega)
      have hk0 : (0 : Int) ≤ (k : Int) := by omega
      have hk1 : (k : Int) < (xs.length : Int) := by omega
      have hk2 : (k : Int) < ((lowAw (xs.sum - E) xs).length : Int) := by rw [HN.out]; omega
      have hk3 : (k : Int) < ((evenOf (halfP xs) (48 * (xs.sum - E))).length : Int) := hk2
      have hA : (wo.alloc (.cells #[.int .i64 (48 * x - y)] 3)).drew.ownsRow w3.heap.size 3 1 (.slice (some ⟨g, 0, none⟩) k cap) k (ints ((halfHi E xs).take k)) := (hown.alloc (.cells #[.int .i64 (48 * x - y)] 3)).drew
      have hba : w3.heap.size ≤ (wo.alloc (.cells #[.int .i64 (48 * x - y)] 3)).drew.heap.size := by simp; omega
      have hbe : (wo.alloc (.cells #[.int .i64 (48 * x - y)] 3)).drew.heap.size = wo.heap.size + 1 := by simp
      have hnw : ∀ j u, [Value.int .i64 (48 * x - y)][j]? = some u → (wo.alloc (.cells #[.int .i64 (48 * x - y)] 3)).drew.cell? ((⟨wo.heap.size, 0, none⟩ : Addr).add j) = some u := news_one wo (48 * x - y) 3
      have hon := one_cell (48 * x - y)
      have cha : Chg w3.heap.size (w3.heap.size + 1) w4 (wo.alloc (.cells #[.int .i64 (48 * x - y)] 3)).drew := chg_drew (hch.trans (Chg.alloc _ _))
      go_wp2_with fail
      go_region_held3 (fun w' => w'.cell? ⟨w.heap.size, 1, none⟩ = some (.slice (some ⟨b, o, none⟩) xs.length c) ∧ w'.cell? ⟨b, o + k, none⟩ = some (.int .i64 x) ∧ w'.cell? ⟨b', o' + k, none⟩ = some (.int .i64 y)) (first | exact ⟨e1, e2, e3⟩ | go_keep)
        (first
          | (refine step_append_lies _ rfl _ _ 29 rfl w3.heap.size 3 i0 (.int .i64 0) 1 8 Try.underlying29 hi0 hq0 hq1 hq2 rfl (by decide) (.slice (some ⟨g, 0, none⟩) k cap) k (ints ((halfHi E xs).take k)) rfl (by exact hA) ⟨wo.heap.size, 0, none⟩ 1 1 [.int .i64 (48 * x - y)] rfl rfl (by exact hnw) hon (by omega) (by unfold maxLen; omega) (by omega) (by exact hba) (wo.heap.size + 1) (by exact hbe) ?_
             intro g' cp w5 hown4 hgrow4 hat4 hlt4
             have ch4 := chg_row cha hgrow4 hg
             have e1 : w5.cell? ⟨w.heap.size, 1, none⟩ = some (.slice (some ⟨b, o, none⟩) xs.length c) := (ch4.cell (by show w.heap.size < _; omega) (by show ¬ (_ ≤ w.heap.size ∧ _); omega)).trans a5'
             have e2 : w5.cell? ⟨b, o + k, none⟩ = some (.int .i64 x) := (((ch4.cell (by show b < _; omega) (by show ¬ (_ ≤ b ∧ b < _); omega))).trans (hch.cell (by show b < _; omega) (by show ¬ (_ ≤ b ∧ b < _); omega)).symm).trans hc
             have e3 : w5.cell? ⟨b', o' + k, none⟩ = some (.int .i64 y) := (((ch4.cell (by show b' < _; omega) (by show ¬ (_ ≤ b' ∧ b' < _); omega))).trans (hch.cell (by show b' < _; omega) (by show ¬ (_ ≤ b' ∧ b' < _); omega)).symm).trans hc'
             have hg' : g' = w3.heap.size ∨ w4.heap.size ≤ g' := by
               rcases hat4 with h4 | h4
               · have h5 : g = g' := Option.some.inj h4
                 omega
               · omega))
      have hn := append_one (R := halfHi E xs) (k := k) (by rw [HRl.out]; exact hlt) _ HV.out rfl hown4
      have hlen : ((halfHi E xs).take (k + 1)).length = k + 1 := by rw [List.length_take, HRl.out]; omega
      rw [hlen] at hn
      have H := Lib.hid (And.intro hn ch4)
      clear hn ch4 hown4 hgrow4 hA hnw hown hch hlen cha e1 e2 e3
      go_wp2
      go_roundw
      case rel => exact ⟨k + 1, g', cp, by omega, by go_num, rfl, hg', H.out.1, H.out.2⟩
      case measure => simp [intOf]; omega
    · obtain rfl : k = xs.length := by omega
      have he : (halfHi E xs).take xs.length = halfHi E xs := by rw [← HRl.out]; exact List.take_length
      rw [he] at hown
      have hown' : wo.ownsRow w3.heap.size 3 1 (.slice (some ⟨g, 0, none⟩) (halfHi E xs).length cap) (halfHi E xs).length (ints (halfHi E xs)) := by rw [HRl.out]; exact hown
      obtain ⟨A', c', e1, _, ho⟩ := own_of_row hown'
      injection e1 with e1 e2 e3
      subst e1
      clear e2 e3
      have H := Lib.hid (And.intro (ho.more (lo' := w.heap.size) (by omega) (Nat.le_refl _)) (B4.trans (hch.below (B := w.heap.size) (by omega) (by omega))))
      clear hown hown' hch he ho
      have hnl : ¬ ((xs.length : Int) < ((lowAw (xs.sum - E) xs).length : Int)) := by rw [HN.out]; omega
      have hnl2 : ¬ ((xs.length : Int) < ((evenOf (halfP xs) (48 * (xs.sum - E))).length : Int)) := hnl
      go_wp2
      go_ret
      exact ⟨some ⟨g, 0, none⟩, cap, by rw [HRl.out]; rfl, H.out.1, H.out.2⟩

set_option maxRecDepth 10000 in
set_option maxHeartbeats 400000 in
theorem specHalfAwards_no (E : Int) (A : Option Addr) (c : Nat) (xs : List Int) (w : World) (lo hi : Nat) (h : Ints w lo hi A xs) (hh : hi ≤ w.heap.size) (hl : xs.length ≤ 1152921504606846976) (hok : caseOkB E xs = false) :
    Calls Try.prog 48 #[.agg #[.int .i64 E, .slice A xs.length c]] w (RetInts w []) := by
  have HO := Lib.hid hok
  clear hok
  have k0 := h.alloc hh (.cells #[.int .i64 E, .slice A xs.length c] 31)
  have B0 := (Below.refl w.heap.size w).alloc (Nat.le_refl _) (.cells #[.int .i64 E, .slice A xs.length c] 31)
  go_enter Try.func48, Try.ntmps48
  go_wp2_with fail
  refine (specCaseOk_no E A c xs _ _ _ k0 (by rw [hsz]; omega) hl HO.out).mono ?_
  rintro e w1 ⟨rfl, hb1⟩
  rw [hsz] at hb1
  have z1 : w.heap.size + 1 ≤ w1.heap.size := by rw [← hsz w (.cells #[.int .i64 E, .slice A xs.length c] 31)]; exact hb1.size
  have B1 := B0.trans (hb1.mono (by omega))
  clear hb1
  go_wp2
  go_ret
  exact ⟨_, 0, rfl, fun h0 => absurd h0 (by simp), B1.alloc (by omega) _⟩

theorem specHalfAwards_yes (E : Int) (A : Option Addr) (c : Nat) (xs : List Int) (w : World) (lo hi : Nat) (h : Ints w lo hi A xs) (hh : hi ≤ w.heap.size) (hok : caseOkB E xs = true) :
    Calls Try.prog 48 #[.agg #[.int .i64 E, .slice A xs.length c]] w (RetInts w (halfAw E xs)) := by
  by_cases hE : 2 * E ≤ xs.sum
  · rw [halfAw_low hE]; exact specHalfAwards_low E A c xs w lo hi h hh hok hE
  · rw [halfAw_high hE]; exact specHalfAwards_high E A c xs w lo hi h hh hok hE
theorem specHalfAwards_any (E : Int) (A : Option Addr) (c : Nat) (xs : List Int) (w : World) (lo hi : Nat) (h : Ints w lo hi A xs) (hh : hi ≤ w.heap.size) (hl : xs.length ≤ 1152921504606846976) :
    Calls Try.prog 48 #[.agg #[.int .i64 E, .slice A xs.length c]] w (RetInts w (halfAws E xs)) := by
  by_cases hok : caseOkB E xs = true
  · have e := specHalfAwards_yes E A c xs w lo hi h hh hok
    simpa [halfAws, hok] using e
  · have hok' : caseOkB E xs = false := by simpa using hok
    have e := specHalfAwards_no E A c xs w lo hi h hh hl hok'
    simpa [halfAws, hok'] using e

end Go.Proofs.Ytbegdcnljafloaa
