/-
  EvenAwards, EvenLevel, EvenLosses and LossLevel of the given package: what they return of each case, and of what is none; they make new memory only. No condition but a length that fits.
-/
import Derived.Test.YtakmbpdapdnniaaSpecEven
import Derived.Test.YtakmbpdapdnniaaImplEven
import Derived.Deep.AppendLies
namespace Go.Proofs.Ytakmbpdapdnniaa
open Go.RowKit

set_option maxRecDepth 10000 in
set_option maxHeartbeats 800000 in
theorem l2Parts_any (A : Option Addr) (c : Nat) (xs : List Int) (w : World) (lo hi : Nat) (h : Ints w lo hi A xs) (hh : hi ≤ w.heap.size) (hs : Small xs) :
    Calls Try.prog 50 #[.slice A xs.length c, .int .i64 48] w (RetInts w (inP xs)) := by
  obtain ⟨i0, hi0, hz0, hz1, hz2⟩ := info_parts info_int
  have hl := hs.1
  have HRl := Lib.hid (inP_length xs)
  have hB0 : (w.alloc (.cells #[] 3)).ownsRow w.heap.size 3 1 (.slice (some ⟨w.heap.size, 0, none⟩) 0 0) ((inP xs).take 0).length (ints ((inP xs).take 0)) := World.ownsRow_made w #[] 0 (Nat.le_refl _) (by unfold maxLen; omega) rfl
  have hb0 := (Below.refl w.heap.size w).alloc (Nat.le_refl _) (.cells #[] 3)
  go_enter Try.func50, Try.ntmps50
  go_wp2
  go_loopw [5, 6] (fun v i wr => ∃ k : Nat, k ≤ xs.length ∧ i = .int .i64 k ∧ wr.ownsRow w.heap.size 3 1 v ((inP xs).take k).length (ints ((inP xs).take k)) ∧ Below w.heap.size w wr) (fun _ i _ => xs.length - (intOf i).toNat)
  case atStart => exact ⟨0, Nat.zero_le _, rfl, hB0, hb0⟩
  case round =>
    obtain ⟨k, hk, rfl, hown, hbel⟩ := hrel
    clear hB0 hb0
    have hbs := hbel.size
    by_cases hlt : k < xs.length
    · obtain ⟨b, o, rfl, _, hbh, hc0⟩ := h.at_ hlt
      have hc : wr.cell? ⟨b, o + k, none⟩ = some (.int .i64 xs[k]) := (hbel.cell (by show b < _; omega)).trans hc0
      have hv := small_at xs hs k hlt
      have hlen : ((inP xs).take k).length = k := by rw [List.length_take, HRl.out]; omega
      rw [hlen] at hown
      clear hlen hc0
      have HV := Lib.hid (inP_at xs k hlt)
      have hA := hown.alloc (.cells #[.int .i64 (xs[k] * 48)] 3)
      go_wp2_with (at_builtin; refine wpList_append_own _ rfl _ _ 23 rfl w.heap.size 3 i0 (.int .i64 0) 1 8 Try.underlying23 hi0 hz0 hz1 hz2 rfl (by decide) _ _ _ rfl hA ⟨wr.heap.size, 0, none⟩ 1 1 [.int .i64 (xs[k] * 48)] rfl rfl (news_one _ _ _) (one_cell _) (by unfold maxLen; omega) (by omega) (by simp; omega) ?_; intro v1 w1 hown1 hgrow1 _)
      have hn := append_one (R := inP xs) (k := k) (by rw [HRl.out]; exact hlt) _ (HV.out.trans (Int.mul_comm _ _)) rfl hown1
      have hb1 := (hbel.alloc hbs (.cells #[.int .i64 (xs[k] * 48)] 3)).grown hgrow1 (by simp; omega) (fun g hg => ((hown.lt g hg).1))
      have H := Lib.hid (And.intro hn hb1)
      clear hn hb1 hown1 hgrow1 hown hA hbel
      go_wp2
      go_roundw
      case rel => exact ⟨k + 1, by omega, by go_num, H.out.1, H.out.2⟩
      case measure => simp [intOf]; omega
    · obtain rfl : k = xs.length := by omega
      have he : (inP xs).take xs.length = inP xs := by rw [← HRl.out]; exact List.take_length
      rw [he] at hown
      have H := Lib.hid (And.intro hown hbel)
      clear hown hbel he
      go_wp2
      go_ret
      obtain ⟨A', c', e1, _, ho⟩ := own_of_row H.out.1
      exact ⟨A', c', congrArg Ending.returned e1, ho, H.out.2⟩

set_option maxRecDepth 10000 in
set_option maxHeartbeats 2000000 in
theorem specEvenAwards_yes (E : Int) (A : Option Addr) (c : Nat) (xs : List Int) (w : World) (lo hi : Nat) (h : Ints w lo hi A xs) (hh : hi ≤ w.heap.size) (hok : caseOkB E xs = true) :
    Calls Try.prog 42 #[.agg #[.int .i64 E, .slice A xs.length c]] w (RetInts w (evenAw E xs)) := by
  have hs := caseOk_small hok
  have hbd := caseOk_bd hok
  have HO := Lib.hid hok
  have HP := Lib.hid (even_part hok)
  have HI := Lib.hid (inP_sum xs)
  clear hok
  have k0 := h.alloc hh (.cells #[.int .i64 E, .slice A xs.length c] 25)
  have a0 := new2 w (.int .i64 E) (.slice A xs.length c) 25
  have B0 := (Below.refl w.heap.size w).alloc (Nat.le_refl _) (.cells #[.int .i64 E, .slice A xs.length c] 25)
  go_enter Try.func42, Try.ntmps42
  go_wp2_with fail
  refine (specCaseOk_yes E A c xs _ _ _ k0 (by rw [hsz]; omega) (by omega) HO.out).mono ?_
  rintro e w1 ⟨rfl, hb1⟩
  rw [hsz] at hb1
  obtain ⟨a1, a1'⟩ := keep2 hb1 a0 (by omega)
  have k1 := k0.below hb1 (by omega)
  have z1 : w.heap.size + 1 ≤ w1.heap.size := by rw [← hsz w (.cells #[.int .i64 E, .slice A xs.length c] 25)]; exact hb1.size
  have B1 := B0.trans (hb1.mono (by omega))
  clear hb1 a0 k0 h B0
  have hw48 : IntKind.i64.wrap (48 * E) = 48 * E := IntWalk.i64_in _ (by omega)
  have hS0 : (fun w' : World => w'.cell? ⟨w.heap.size, 0, none⟩ = some (.int .i64 E) ∧ w'.cell? ⟨w.heap.size, 1, none⟩ = some (.slice A xs.length c) ∧ Ints w' lo hi A xs ∧ w1.heap.size ≤ w'.heap.size ∧ Below w.heap.size w w') w1.drew := ⟨a1, a1', k1, Nat.le_refl _, B1.drew⟩
  clear k1 B1 a1 a1'
  go_wp2_with fail
  go_region_held3 (fun w' => w'.cell? ⟨w.heap.size, 0, none⟩ = some (.int .i64 E) ∧ w'.cell? ⟨w.heap.size, 1, none⟩ = some (.slice A xs.length c) ∧ Ints w' lo hi A xs ∧ w1.heap.size ≤ w'.heap.size ∧ Below w.heap.size w w') (first | assumption | exact hS0 | exact HS9 | go_keep)
    (first
      | (go_at_call 50
         obtain ⟨y0, y1, kc, zz, BB⟩ := (by assumption : (fun w' : World => w'.cell? ⟨w.heap.size, 0, none⟩ = some (.int .i64 E) ∧ w'.cell? ⟨w.heap.size, 1, none⟩ = some (.slice A xs.length c) ∧ Ints w' lo hi A xs ∧ w1.heap.size ≤ w'.heap.size ∧ Below w.heap.size w w') _)
         refine (l2Parts_any A c xs _ lo hi kc (by omega) hs).mono ?_
         rintro e w2 ⟨A2, c2, rfl, ho2, hb2⟩
         have q2 := ho2.ints
         have HS9 : (fun w' : World => w'.cell? ⟨w.heap.size, 0, none⟩ = some (.int .i64 E) ∧ w'.cell? ⟨w.heap.size, 1, none⟩ = some (.slice A xs.length c) ∧ Ints w' lo hi A xs ∧ w1.heap.size ≤ w'.heap.size ∧ Below w.heap.size w w') w2 := ⟨(keep2 hb2 ⟨y0, y1⟩ (by omega)).1, (keep2 hb2 ⟨y0, y1⟩ (by omega)).2, kc.below hb2 (by omega), Nat.le_trans zz hb2.size, BB.trans (hb2.mono (by omega))⟩)
      | (go_at_call 49
         obtain ⟨y0, y1, kc, zz, BB⟩ := (by assumption : (fun w' : World => w'.cell? ⟨w.heap.size, 0, none⟩ = some (.int .i64 E) ∧ w'.cell? ⟨w.heap.size, 1, none⟩ = some (.slice A xs.length c) ∧ Ints w' lo hi A xs ∧ w1.heap.size ≤ w'.heap.size ∧ Below w.heap.size w w') _)
         refine (l2Even_any A2 c2 (inP xs) (48 * E) _ _ _ q2 (Nat.le_refl _) HP.out (by omega) (by rw [HI.out]; omega)).mono ?_
         rintro e w3 ⟨A3, c3, rfl, ho3, hb3⟩
         have HS9 : (fun w' : World => w'.cell? ⟨w.heap.size, 0, none⟩ = some (.int .i64 E) ∧ w'.cell? ⟨w.heap.size, 1, none⟩ = some (.slice A xs.length c) ∧ Ints w' lo hi A xs ∧ w1.heap.size ≤ w'.heap.size ∧ Below w.heap.size w w') w3 := ⟨(keep2 hb3 ⟨y0, y1⟩ (by omega)).1, (keep2 hb3 ⟨y0, y1⟩ (by omega)).2, kc.below hb3 (by omega), Nat.le_trans zz hb3.size, BB.trans (hb3.mono (by omega))⟩
         have H := Lib.hid (And.intro (ho3.more (lo' := w.heap.size) (hi' := w3.heap.size) (by omega) (Nat.le_refl _)) HS9.2.2.2.2)))
  go_wp2
  go_ret
  exact ⟨A3, c3, rfl, H.out.1, H.out.2⟩

set_option maxRecDepth 10000 in
set_option maxHeartbeats 400000 in
theorem specEvenAwards_no (E : Int) (A : Option Addr) (c : Nat) (xs : List Int) (w : World) (lo hi : Nat) (h : Ints w lo hi A xs) (hh : hi ≤ w.heap.size) (hl : xs.length ≤ 1152921504606846976) (hok : caseOkB E xs = false) :
    Calls Try.prog 42 #[.agg #[.int .i64 E, .slice A xs.length c]] w (RetInts w []) := by
  have HO := Lib.hid hok
  clear hok
  have k0 := h.alloc hh (.cells #[.int .i64 E, .slice A xs.length c] 25)
  have B0 := (Below.refl w.heap.size w).alloc (Nat.le_refl _) (.cells #[.int .i64 E, .slice A xs.length c] 25)
  go_enter Try.func42, Try.ntmps42
  go_wp2_with fail
  refine (specCaseOk_no E A c xs _ _ _ k0 (by rw [hsz]; omega) hl HO.out).mono ?_
  rintro e w1 ⟨rfl, hb1⟩
  rw [hsz] at hb1
  have z1 : w.heap.size + 1 ≤ w1.heap.size := by rw [← hsz w (.cells #[.int .i64 E, .slice A xs.length c] 25)]; exact hb1.size
  have B1 := B0.trans (hb1.mono (by omega))
  clear hb1
  go_wp2
  go_ret
  exact ⟨_, 0, rfl, fun h0 => absurd h0 (by simp), B1.alloc (by omega) _⟩

theorem specEvenAwards_any (E : Int) (A : Option Addr) (c : Nat) (xs : List Int) (w : World) (lo hi : Nat) (h : Ints w lo hi A xs) (hh : hi ≤ w.heap.size) (hl : xs.length ≤ 1152921504606846976) :
    Calls Try.prog 42 #[.agg #[.int .i64 E, .slice A xs.length c]] w (RetInts w (evenAws E xs)) := by
  by_cases hok : caseOkB E xs = true
  · have e := specEvenAwards_yes E A c xs w lo hi h hh hok
    simpa [evenAws, hok] using e
  · have hok' : caseOkB E xs = false := by simpa using hok
    have e := specEvenAwards_no E A c xs w lo hi h hh hl hok'
    simpa [evenAws, hok'] using e

theorem even_at_bd {E : Int} {xs : List Int} (h : caseOkB E xs = true) (k : Nat) (hk : k < xs.length) : (0 ≤ xs[k] ∧ xs[k] ≤ 12) ∧ 0 ≤ (evenAw (xs.sum - E) xs)[k]'(by rw [evenAw_length]; exact hk) ∧ (evenAw (xs.sum - E) xs)[k]'(by rw [evenAw_length]; exact hk) ≤ 576 := by
  have h1 := ((caseOk_iff E xs).1 h).2.2.1 _ (List.getElem_mem hk)
  have h2 := evenLv_bd (other_ok h)
  rw [evenAw_at _ xs k hk]
  omega
/-- What an append to the row at g leaves of what was there, where g is the row made first or one made later. -/
theorem chg_row {w3 W w' : World} {B g n c : Nat} (h : Chg B (B + 1) w3 W) (hg : W.grownBy w' (Value.ownBlock (.slice (some ⟨g, 0, none⟩) n c))) (hgg : g = B ∨ w3.heap.size ≤ g) : Chg B (B + 1) w3 w' :=
  ⟨hg.os.trans h.os, hg.tape.trans h.tape, hg.output.trans h.output, Nat.le_trans h.size hg.size, fun k hk hn => (hg.block k (Nat.lt_of_lt_of_le hk h.size) (fun e => by have e' : k = g := (Option.some.inj e).symm ▸ rfl; omega)).trans (h.block k hk hn)⟩

set_option maxRecDepth 10000 in
set_option maxHeartbeats 4000000 in
theorem specEvenLosses_yes (E : Int) (A : Option Addr) (c : Nat) (xs : List Int) (w : World) (lo hi : Nat) (h : Ints w lo hi A xs) (hh : hi ≤ w.heap.size) (hok : caseOkB E xs = true) :
    Calls Try.prog 43 #[.agg #[.int .i64 E, .slice A xs.length c]] w (RetInts w (evenLo E xs)) := by
  obtain ⟨i0, hi0, hq0, hq1, hq2⟩ := info_parts info_int
  have hbd := caseOk_bd hok
  have HO := Lib.hid hok
  have HP := Lib.hid (other_ok hok)
  have HRl := Lib.hid (evenLo_length E xs)
  have HN := Lib.hid (evenAw_length (xs.sum - E) xs)
  have hrg := Lib.hid (fun k hk => even_at_bd hok k hk)
  clear hok
  have k0 := (h.alloc hh (.cells #[.int .i64 E, .slice A xs.length c] 25)).alloc (by rw [hsz]; omega) (.cells #[] 3)
  have a0 := keep2 ((Below.refl (w.alloc (.cells #[.int .i64 E, .slice A xs.length c] 25)).heap.size _).alloc (Nat.le_refl _) (.cells #[] 3)) (new2 w (.int .i64 E) (.slice A xs.length c) 25) (by rw [hsz]; omega)
  have B0 := ((Below.refl w.heap.size w).alloc (Nat.le_refl _) (.cells #[.int .i64 E, .slice A xs.length c] 25)).alloc (by rw [hsz]; omega) (.cells #[] 3)
  have hR0 : ((w.alloc (.cells #[.int .i64 E, .slice A xs.length c] 25)).alloc (.cells #[] 3)).ownsRow (w.heap.size + 1) 3 1 (.slice (some ⟨w.heap.size + 1, 0, none⟩) 0 0) ((evenLo E xs).take 0).length (ints ((evenLo E xs).take 0)) := by
    have e := World.ownsRow_made (base := w.heap.size + 1) (e := 3) (size := 1) (w.alloc (.cells #[.int .i64 E, .slice A xs.length c] 25)) #[] 0 (by rw [hsz]; exact Nat.le_refl _) (by unfold maxLen; omega) rfl
    rw [hsz] at e; exact e
  obtain ⟨W0, hW0⟩ : ∃ W, W = (w.alloc (.cells #[.int .i64 E, .slice A xs.length c] 25)).alloc (.cells #[] 3) := ⟨_, rfl⟩
  have z0 : W0.heap.size = w.heap.size + 2 := by rw [hW0, hsz, hsz]
  rw [← hW0] at k0 a0 B0 hR0
  go_enter Try.func43, Try.ntmps43
  go_wp2_with fail
  rw [← hW0]
  clear hW0
  refine (specCaseOk_yes E A c xs _ _ _ k0 (by omega) (by omega) HO.out).mono ?_
  rintro e w1 ⟨rfl, hb1⟩
  obtain ⟨a1, a1'⟩ := keep2 hb1 a0 (by omega)
  have k1 := k0.below hb1 (by omega)
  have z1 := hb1.size
  have B1 := B0.trans (hb1.mono (by omega))
  have R1 := own_below hR0 hb1
  clear hb1 a0 k0 h B0 hR0
  go_wp2_with fail
  refine (specOtherCase_yes E A c xs _ _ _ k1 (by omega) HO.out).mono ?_
  rintro e w2 ⟨A2, c2, rfl, ho2, hb2⟩
  have a2 := keep2 ((Below.refl w2.heap.size w2).alloc (Nat.le_refl _) (.cells #[.int .i64 (xs.sum - E), .slice A2 xs.length c2] 25)) (keep2 hb2 ⟨a1, a1'⟩ (by omega)) (by have := hb2.size; omega)
  have o2 := new2 w2 (.int .i64 (xs.sum - E)) (.slice A2 xs.length c2) 25
  have k2 := (k1.below hb2 (by omega)).alloc (by have := hb2.size; omega) (.cells #[.int .i64 (xs.sum - E), .slice A2 xs.length c2] 25)
  have q2 := ho2.ints.alloc (Nat.le_refl _) (.cells #[.int .i64 (xs.sum - E), .slice A2 xs.length c2] 25)
  have B2 := (B1.trans (hb2.mono (by omega))).alloc (by have := hb2.size; omega) (.cells #[.int .i64 (xs.sum - E), .slice A2 xs.length c2] 25)
  have R2 := (own_below R1 hb2).alloc (.cells #[.int .i64 (xs.sum - E), .slice A2 xs.length c2] 25)
  have z2 := hb2.size
  obtain ⟨W2, hW2⟩ : ∃ W, W = w2.alloc (.cells #[.int .i64 (xs.sum - E), .slice A2 xs.length c2] 25) := ⟨_, rfl⟩
  have z2' : W2.heap.size = w2.heap.size + 1 := by rw [hW2, hsz]
  rw [← hW2] at a2 o2 k2 q2 B2 R2
  obtain ⟨a2, a2'⟩ := a2
  obtain ⟨o2, o2'⟩ := o2
  clear hb2 ho2 k1 B1 R1 a1 a1'
  go_wp2_with (fail)
  rw [← hW2]
  clear hW2
  refine (specEvenAwards_yes (xs.sum - E) A2 c2 xs _ _ _ q2 (by omega) HP.out).mono ?_
  rintro e w3 ⟨A3, c3, rfl, ho3, hb3⟩
  obtain ⟨a3, a3'⟩ := keep2 hb3 ⟨a2, a2'⟩ (by omega)
  have k3 := k2.below hb3 (by omega)
  have q3 := ho3.ints
  have z3 := hb3.size
  have H3 := Lib.hid (B2.trans (hb3.mono (by omega)))
  have R3 := own_below R2 hb3
  clear hb3 ho3 k2 q2 B2 R2 a2 a2' o2 o2'
  go_wp2
  go_loopw [3, 7] (fun v i wr => ∃ k g cap : Nat, k ≤ xs.length ∧ i = .int .i64 k ∧ v = .slice (some ⟨g, 0, none⟩) k cap ∧ (g = w.heap.size + 1 ∨ w3.heap.size ≤ g) ∧ wr.ownsRow (w.heap.size + 1) 3 1 (.slice (some ⟨g, 0, none⟩) k cap) k (ints ((evenLo E xs).take k)) ∧ Chg (w.heap.size + 1) (w.heap.size + 2) w3 wr) (fun _ i _ => xs.length - (intOf i).toNat)
  case atStart => exact ⟨0, w.heap.size + 1, 0, Nat.zero_le _, rfl, rfl, .inl rfl, by simpa using R3, Chg.refl _ _ _⟩
  case round =>
    obtain ⟨k, g, cap, hk, rfl, rfl, hg, hown, hch⟩ := hrel
    obtain ⟨wo, rfl⟩ : ∃ x, x = wr := ⟨_, rfl⟩
    clear R3
    have zo := hch.size
    obtain ⟨ao, ao'⟩ := keep2c hch ⟨a3, a3'⟩ (by omega) (by omega)
    by_cases hlt : k < xs.length
    · obtain ⟨b, o, rfl, hbl, hbh, hc⟩ := (k3.chg hch (by omega) (.inl (by omega))).at_ hlt
      obtain ⟨b', o', rfl, hbl', hbh', hc'⟩ := (q3.chg hch (Nat.le_refl _) (.inr (by omega))).at_ (by rw [HN.out]; exact hlt)
      have hV : (evenLo E xs)[k]'(by rw [HRl.out]; exact hlt) = 48 * xs[k] - (evenAw (xs.sum - E) xs)[k]'(by rw [HN.out]; exact hlt) := by rw [evenLo_at E xs k hlt, evenAw_at (xs.sum - E) xs k hlt]
      have HV := Lib.hid hV
      have hv := hrg.out k hlt
      clear hV
      generalize (evenAw (xs.sum - E) xs)[k]'(by rw [HN.out]; exact hlt) = y at hc' HV hv
      generalize xs[k] = x at hc HV hv
      have hw1 : IntKind.i64.wrap (48 * x) = 48 * x := IntWalk.i64_in _ (by omega)
      have hw2 : IntKind.i64.wrap (48 * x - y) = 48 * x - y := IntWalk.i64_in _ (by omega)
      have hk0 : (0 : Int) ≤ (k : Int) := by omega
      have hk1 : (k : Int) < (xs.length : Int) := by omega
      have hk2 : (k : Int) < ((evenAw (xs.sum - E) xs).length : Int) := by rw [HN.out]; omega
      have hA : (wo.alloc (.cells #[.int .i64 (48 * x - y)] 3)).drew.ownsRow (w.heap.size + 1) 3 1 (.slice (some ⟨g, 0, none⟩) k cap) k (ints ((evenLo E xs).take k)) := (hown.alloc (.cells #[.int .i64 (48 * x - y)] 3)).drew
      have hba : w.heap.size + 1 ≤ (wo.alloc (.cells #[.int .i64 (48 * x - y)] 3)).drew.heap.size := by simp; omega
      have hbe : (wo.alloc (.cells #[.int .i64 (48 * x - y)] 3)).drew.heap.size = wo.heap.size + 1 := by simp
      have hnw : ∀ j u, [Value.int .i64 (48 * x - y)][j]? = some u → (wo.alloc (.cells #[.int .i64 (48 * x - y)] 3)).drew.cell? ((⟨wo.heap.size, 0, none⟩ : Addr).add j) = some u := news_one wo (48 * x - y) 3
      have hon := one_cell (48 * x - y)
      have cha : Chg (w.heap.size + 1) (w.heap.size + 2) w3 (wo.alloc (.cells #[.int .i64 (48 * x - y)] 3)).drew := chg_drew (hch.trans (Chg.alloc _ _))
      go_wp2_with fail
      go_region_held3 (fun w' => w'.cell? ⟨w.heap.size, 1, none⟩ = some (.slice (some ⟨b, o, none⟩) xs.length c) ∧ w'.cell? ⟨b, o + k, none⟩ = some (.int .i64 x) ∧ w'.cell? ⟨b', o' + k, none⟩ = some (.int .i64 y)) (first | exact ⟨e1, e2, e3⟩ | go_keep)
        (first
          | (refine step_append_lies _ rfl _ _ 23 rfl (w.heap.size + 1) 3 i0 (.int .i64 0) 1 8 Try.underlying23 hi0 hq0 hq1 hq2 rfl (by decide) (.slice (some ⟨g, 0, none⟩) k cap) k (ints ((evenLo E xs).take k)) rfl (by exact hA) ⟨wo.heap.size, 0, none⟩ 1 1 [.int .i64 (48 * x - y)] rfl rfl (by exact hnw) hon (by omega) (by unfold maxLen; omega) (by omega) (by exact hba) (wo.heap.size + 1) (by exact hbe) ?_
             intro g' cp w4 hown4 hgrow4 hat4 hlt4
             have ch4 := chg_row cha hgrow4 hg
             have e1 : w4.cell? ⟨w.heap.size, 1, none⟩ = some (.slice (some ⟨b, o, none⟩) xs.length c) := (ch4.cell (by show w.heap.size < _; omega) (by show ¬ (_ ≤ w.heap.size ∧ _); omega)).trans a3'
             have e2 : w4.cell? ⟨b, o + k, none⟩ = some (.int .i64 x) := (((ch4.cell (by show b < _; omega) (by show ¬ (_ ≤ b ∧ b < _); omega))).trans (hch.cell (by show b < _; omega) (by show ¬ (_ ≤ b ∧ b < _); omega)).symm).trans hc
             have e3 : w4.cell? ⟨b', o' + k, none⟩ = some (.int .i64 y) := (((ch4.cell (by show b' < _; omega) (by show ¬ (_ ≤ b' ∧ b' < _); omega))).trans (hch.cell (by show b' < _; omega) (by show ¬ (_ ≤ b' ∧ b' < _); omega)).symm).trans hc'
             have hg' : g' = w.heap.size + 1 ∨ w3.heap.size ≤ g' := by
               rcases hat4 with h4 | h4
               · have h5 : g = g' := Option.some.inj h4
                 omega
               · omega))
      have hn := append_one (R := evenLo E xs) (k := k) (by rw [HRl.out]; exact hlt) _ HV.out rfl hown4
      have hlen : ((evenLo E xs).take (k + 1)).length = k + 1 := by rw [List.length_take, HRl.out]; omega
      rw [hlen] at hn
      have H := Lib.hid (And.intro hn ch4)
      clear hn ch4 hown4 hgrow4 hA hnw hown hch hlen cha e1 e2 e3
      go_wp2
      go_roundw
      case rel => exact ⟨k + 1, g', cp, by omega, by go_num, rfl, hg', H.out.1, H.out.2⟩
      case measure => simp [intOf]; omega
    · obtain rfl : k = xs.length := by omega
      have he : (evenLo E xs).take xs.length = evenLo E xs := by rw [← HRl.out]; exact List.take_length
      rw [he] at hown
      have hown' : wo.ownsRow (w.heap.size + 1) 3 1 (.slice (some ⟨g, 0, none⟩) (evenLo E xs).length cap) (evenLo E xs).length (ints (evenLo E xs)) := by rw [HRl.out]; exact hown
      obtain ⟨A', c', e1, _, ho⟩ := own_of_row hown'
      injection e1 with e1 e2 e3
      subst e1
      clear e2 e3
      have H := Lib.hid (And.intro (ho.more (lo' := w.heap.size) (by omega) (Nat.le_refl _)) (H3.out.trans (hch.below (B := w.heap.size) (by omega) (by omega))))
      clear hown hown' hch he ho
      have hnl : ¬ ((xs.length : Int) < ((evenAw (xs.sum - E) xs).length : Int)) := by rw [HN.out]; omega
      go_wp2
      go_ret
      exact ⟨some ⟨g, 0, none⟩, cap, by rw [HRl.out]; rfl, H.out.1, H.out.2⟩

set_option maxRecDepth 10000 in
set_option maxHeartbeats 400000 in
theorem specEvenLosses_no (E : Int) (A : Option Addr) (c : Nat) (xs : List Int) (w : World) (lo hi : Nat) (h : Ints w lo hi A xs) (hh : hi ≤ w.heap.size) (hl : xs.length ≤ 1152921504606846976) (hok : caseOkB E xs = false) :
    Calls Try.prog 43 #[.agg #[.int .i64 E, .slice A xs.length c]] w (RetInts w []) := by
  have HO := Lib.hid hok
  clear hok
  have k0 := (h.alloc hh (.cells #[.int .i64 E, .slice A xs.length c] 25)).alloc (by rw [hsz]; omega) (.cells #[] 3)
  have B0 := ((Below.refl w.heap.size w).alloc (Nat.le_refl _) (.cells #[.int .i64 E, .slice A xs.length c] 25)).alloc (by rw [hsz]; omega) (.cells #[] 3)
  go_enter Try.func43, Try.ntmps43
  go_wp2_with fail
  refine (specCaseOk_no E A c xs _ _ _ k0 (by rw [hsz, hsz]; omega) hl HO.out).mono ?_
  rintro e w1 ⟨rfl, hb1⟩
  rw [hsz, hsz] at hb1
  have B1 := B0.trans (hb1.mono (by omega))
  clear hb1
  go_wp2
  go_ret
  exact ⟨_, 0, rfl, fun h0 => absurd h0 (by simp), B1⟩

theorem specEvenLosses_any (E : Int) (A : Option Addr) (c : Nat) (xs : List Int) (w : World) (lo hi : Nat) (h : Ints w lo hi A xs) (hh : hi ≤ w.heap.size) (hl : xs.length ≤ 1152921504606846976) :
    Calls Try.prog 43 #[.agg #[.int .i64 E, .slice A xs.length c]] w (RetInts w (evenLos E xs)) := by
  by_cases hok : caseOkB E xs = true
  · have e := specEvenLosses_yes E A c xs w lo hi h hh hok
    simpa [evenLos, hok] using e
  · have hok' : caseOkB E xs = false := by simpa using hok
    have e := specEvenLosses_no E A c xs w lo hi h hh hl hok'
    simpa [evenLos, hok'] using e

end Go.Proofs.Ytakmbpdapdnniaa
