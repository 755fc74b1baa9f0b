/-
  The walk over all orders of the people that begin with those who have come: the function calls itself, and the function value at each order's end. Premises: where the captured variables and the rows lie, sums that fit.
-/
import Derived.Test.YtkkdolbbioeknaaWalkB
namespace Go.Proofs.Ytkkdolbbioeknaa
open Go.RowKit

/-- The function value that ArrivalAwards hands over. -/
abbrev visitV (Bc Ba : Nat) : Value := .func (.func 60) #[] #[.pointer (some ⟨Bc, 0, none⟩), .pointer (some ⟨Ba, 0, none⟩)]
set_option maxRecDepth 10000 in
set_option maxHeartbeats 1000000 in
theorem walk_any (E : Int) (A : Option Addr) (c : Nat) (xs : List Int) (Bc Ba G lo hi : Nat) (hok : caseOkB E xs = true) (hh : hi ≤ G) (hbc : Bc < G) (hba : G < Ba) :
    ∀ (d N : Nat) (D : Option Addr) (dc : Nat) (os : List Int) (T : Nat → Int) (w : World), N + d = xs.length → Gro w (Ba + 1) D dc N os → (∀ o ∈ ords xs.length d os, orderB xs.length o = true) → (∀ i, 0 ≤ T i ∧ T i + 2304 * (ords xs.length d os).length ≤ 600000) →
      w.cell? ⟨Bc, 0, none⟩ = some (.int .i64 E) → w.cell? ⟨Bc, 1, none⟩ = some (.slice A xs.length c) → w.cell? ⟨Ba, 0, none⟩ = some (.slice (some ⟨G, 0, none⟩) xs.length xs.length) → Grow w G xs.length (fnRow xs.length T) → Ints w lo hi A xs → Ba < w.heap.size →
      Calls Try.prog 59 #[.int .i64 (xs.length : Int), .slice D N dc, visitV Bc Ba] w fun e w' => e = .returned (.tuple #[]) ∧ Grow w' G xs.length (fnRow xs.length (addL E xs T (ords xs.length d os))) ∧ Wk G D w w' ∧ Gro w' (Ba + 1) D dc N os := by
  have hbd := caseOk_bd hok
  intro d
  induction d with
  | zero =>
    intro N D dc os T w hN hg hv hT h0 h1 h2 hG hI hs
    have hN1 : N = xs.length := by omega
    subst hN1
    have hol := hg.len
    have hX : ((xs.length : Int) == (xs.length : Int)) = true := by simp
    have e := arrAdd_any E A c xs D dc os Bc Ba G T w lo hi (Ba + 1) w.heap.size h0 h1 h2 hG hI hh hbc hba hs hg.ints (by omega) (Nat.le_refl _) hok (hv os (by simp [ords])) (fun i => by have e := hT i; simp [ords] at e; omega)
    rw [hol] at e
    go_enter Try.func59, Try.ntmps59
    go_wp2_with (go_at_call 60; refine e.mono ?_; rintro e9 w1 ⟨rfl, hG1, hC1⟩)
    have hk : Wk G D w w1 := Wk.of_chg hC1
    refine bodyPost_ret (results_none (by rfl) _ _ _) rfl ?_
    refine ⟨rfl, by rw [show ords xs.length 0 os = [os] from rfl, addL_one]; exact hG1, hk, ?_⟩
    rcases hg with h | ⟨g, rfl, q1, q3, q4, q5⟩
    · exact .inl h
    · exact .inr ⟨g, rfl, q1, q3, q4, q5.chg hC1 (by omega)⟩
  | succ d ih =>
    intro N D dc os T w hN hg hv hT h0 h1 h2 hG hI hs
    have hX : ((N : Int) == (xs.length : Int)) = false := by simp; omega
    have hX2 : ¬ (N : Int) = (xs.length : Int) := by omega
    go_enter Try.func59, Try.ntmps59
    go_wp2
    go_loopw [15] (fun i wr => ∃ p : Nat, i = .int .i64 p ∧ p ≤ xs.length ∧ Grow wr G xs.length (fnRow xs.length (addL E xs T (ordsTo xs.length d os p))) ∧ Wk G D w wr ∧ Gro wr (Ba + 1) D dc N os) (fun i _ => xs.length - (intOf i).toNat)
    case atStart => exact ⟨0, rfl, Nat.zero_le _, by rw [ordsTo_zero, addL_nil]; exact hG, Wk.refl _ _ _, hg⟩
    case round =>
      obtain ⟨p, rfl, hp, hGr, hwk, hgr⟩ := hrel
      have hz := hwk.size
      have hDn : ∀ k, k ≤ Ba → ¬ D = some ⟨k, 0, none⟩ := fun k hk e => by have q := hg.at_block e; omega
      have r0 := (hwk.cell (b := Bc) (o := 0) (by omega) (by omega) (hDn Bc (by omega))).trans h0
      have r1 := (hwk.cell (b := Bc) (o := 1) (by omega) (by omega) (hDn Bc (by omega))).trans h1
      have r2 := (hwk.cell (b := Ba) (o := 0) (by omega) (by omega) (hDn Ba (by omega))).trans h2
      have rI := hwk.ints hI (by omega) hh (fun k hk => hDn k (by omega))
      by_cases hlt : p < xs.length
      · have hpi : (p : Int) < (xs.length : Int) := by omega
        cases hcon : os.contains (p : Int) with
        | true =>
          go_wp2_with fail
          refine (contains_gro hgr (by omega) (p : Int)).mono ?_
          rintro e w9 ⟨he, rfl⟩
          rw [hcon] at he
          subst he
          go_wp2
          go_roundw
          case rel => exact ⟨p + 1, by go_num, by omega, by rw [ordsTo_yes hcon]; exact hGr, hwk, hgr⟩
          case measure => simp [intOf] <;> omega
        | false =>
          have hno := ordsTo_no (n := xs.length) (d := d) hcon
          have hle := ordsTo_le (n := xs.length) (d := d) (os := os) (show p + 1 ≤ xs.length by omega)
          rw [hno, List.length_append] at hle
          have hall := congrArg List.length (ordsTo_all xs.length d os)
          have hvn : ∀ o ∈ ords xs.length d (os ++ [(p : Int)]), orderB xs.length o = true := fun o ho => hv o (ords_in hlt hcon ho)
          have hTn : ∀ i, 0 ≤ addL E xs T (ordsTo xs.length d os p) i ∧ addL E xs T (ordsTo xs.length d os p) i + 2304 * (ords xs.length d (os ++ [(p : Int)])).length ≤ 600000 := fun i => by
            have e1 := addL_rg hok T i (ordsTo xs.length d os p)
            have e2 := hT i
            omega
          have IH := Lib.hid ih
          clear hall hle hv hT
          go_wp2_with fail
          refine (contains_gro hgr (by omega) (p : Int)).mono ?_
          rintro e w9 ⟨he, rfl⟩
          rw [hcon] at he
          subst he
          have gA := hgr.alloc (.cells #[.int .i64 (p : Int)] 3)
          have cA : (wr.alloc (.cells #[.int .i64 (p : Int)] 3)).cell? ⟨wr.heap.size, 0, none⟩ = some (.int .i64 (p : Int)) := by simp [go_sem]
          have bA : Below wr.heap.size wr (wr.alloc (.cells #[.int .i64 (p : Int)] 3)) := (Below.refl _ wr).alloc (Nat.le_refl _) _
          obtain ⟨wa, hwa⟩ : ∃ x, x = wr.alloc (.cells #[.int .i64 (p : Int)] 3) := ⟨_, rfl⟩
          rw [← hwa] at gA cA bA
          have HWA := Lib.hid hwa
          have zA := bA.size
          go_wp2_with (first
            | (rw [← HWA.out]
               refine append_app (by rfl) _ _ (by rfl) (by rfl) gA (by rfl) cA (by omega) ?_
               intro g c' w1 hap
               have gL := gA.longer hap (by omega)
               have hlt1 : Ba + 1 ≤ g := by
                 rcases hap.2 with ⟨q, _⟩ | ⟨q, _⟩
                 · exact gA.at_block q
                 · omega
               have hkA : Wk G D wa w1 := by
                 rcases hap.2 with ⟨q, _, q2⟩ | ⟨_, q2⟩
                 · exact Wk.of_own q2 q
                 · exact Wk.of_below q2
               have hkB : Wk G D wr w1 := (Wk.of_below bA).trans hkA
               have zB := hkB.size
               have s0 := (hkB.cell (b := Bc) (o := 0) (by omega) (by omega) (hDn Bc (by omega))).trans r0
               have s1 := (hkB.cell (b := Bc) (o := 1) (by omega) (by omega) (hDn Bc (by omega))).trans r1
               have s2 := (hkB.cell (b := Ba) (o := 0) (by omega) (by omega) (hDn Ba (by omega))).trans r2
               have sI := hkB.ints rI (by omega) hh (fun k hk => hDn k (by omega))
               have sG : Grow w1 G xs.length (fnRow xs.length (addL E xs T (ordsTo xs.length d os p))) := by
                 have q := hGr.below bA hGr.lt
                 rcases hap.2 with ⟨_, _, q2⟩ | ⟨_, q2⟩
                 · exact q.chg q2 (by omega)
                 · exact q.below q2 q.lt)
            | (go_at_call 59
               refine (IH.out (N + 1) (some ⟨g, 0, none⟩) c' (os ++ [(p : Int)]) (addL E xs T (ordsTo xs.length d os p)) w1 (by omega) gL hvn hTn s0 s1 s2 sG sI (by omega)).mono ?_
               rintro e2 w2 ⟨rfl, tG, tk, tg⟩
               have tgr : Grow w2 g c' (os ++ [(p : Int)]) := by
                 rcases tg with ⟨q, _⟩ | ⟨g', q, _, _, _, q2⟩
                 · cases q
                 · injection q with q
                   injection q with q _ _
                   subst q; exact q2
               obtain ⟨hk2, hg2⟩ := walk_back gA hap tk tgr (by omega)
               have hk3 : Wk G D w w2 := (hwk.trans (Wk.of_below bA)).trans hk2
               rw [addL_append, ← hno] at tG
               have HF := Lib.hid (And.intro tG (And.intro hk3 hg2))
               clear tG hk3 hg2 hk2 tgr tg tk s0 s1 s2 sI sG hkB hkA gL hap))
          go_roundw
          case rel => exact ⟨p + 1, by go_num, by omega, HF.out⟩
          case measure => simp [intOf] <;> omega
      · obtain rfl : p = xs.length := by omega
        go_wp2
        go_end0
        exact ⟨rfl, by rw [← ordsTo_all]; exact hGr, hwk, hgr⟩

end Go.Proofs.Ytkkdolbbioeknaa
