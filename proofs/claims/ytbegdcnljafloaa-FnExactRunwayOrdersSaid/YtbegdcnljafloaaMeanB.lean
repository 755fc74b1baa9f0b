/-
  The walk over all orders of the people that begin with those who have come: the function calls itself, and the function value of meanOfOrders at each order's end. Premises: what the function value that gives a row does, where the captured variables and the rows lie, sums that fit.
-/
import Derived.Test.YtbegdcnljafloaaMeanA
namespace Go.Proofs.Ytbegdcnljafloaa
open Go.RowKit

/-- The function value that meanOfOrders hands over. -/
abbrev meanV (Bf Ba : Nat) : Value := .func (.func 79) #[] #[.pointer (some ⟨Bf, 0, none⟩), .pointer (some ⟨Ba, 0, none⟩)]
set_option maxRecDepth 10000 in
set_option maxHeartbeats 1000000 in
theorem visits_any {n : Nat} {K : FuncId} {v1 : Value} {F : List Int → List Int} {w0 : World} (hE : Enters Try.prog K) (hF : RowOf K v1 n F w0) (hL : ∀ o, (F o).length = n) (hR : ∀ o k, 0 ≤ (F o).getD k 0 ∧ (F o).getD k 0 ≤ 20000) (Bf Ba G : Nat) (h4 : n ≤ 4) (hbl : w0.heap.size ≤ Bf) (hbf : Bf < G) (hba : G < Ba) :
    ∀ (d N : Nat) (D : Option Addr) (dc : Nat) (os : List Int) (T : Nat → Int) (w : World), N + d = n → Gro w (Ba + 1) D dc N os → (∀ o ∈ ords n d os, orderB n o = true) → (∀ i, 0 ≤ T i ∧ T i + 20000 * (ords n d os).length ≤ 600000) →
      w.cell? ⟨Bf, 0, none⟩ = some (.func (.func K) #[] #[v1]) → w.cell? ⟨Ba, 0, none⟩ = some (.slice (some ⟨G, 0, none⟩) n n) → Grow w G n (fnRow n T) → Ba < w.heap.size → Below w0.heap.size w0 w →
      Calls Try.prog 78 #[.int .i64 (n : Int), .slice D N dc, meanV Bf Ba] w fun e w' => e = .returned (.tuple #[]) ∧ Grow w' G n (fnRow n (addF F T (ords n d os))) ∧ Wk G D w w' ∧ Gro w' (Ba + 1) D dc N os := by
  intro d
  induction d with
  | zero =>
    intro N D dc os T w hN hg hv hT h1 h2 hG hs hB0
    have hN1 : N = n := by omega
    subst hN1
    have hol := hg.len
    have hX : ((N : Int) == (N : Int)) = true := by simp
    have e := rowAdd_any hE hF hL hR D dc os Bf Ba G T w (Ba + 1) w.heap.size h1 h2 hG hbf hba hs hg.ints (by omega) (Nat.le_refl _) hB0 (hv os (by simp [ords])) (fun i => by have e := hT i; simp [ords] at e; omega) h4
    go_enter Try.func78, Try.ntmps78
    go_wp2_with (go_at_call 79; refine e.mono ?_; rintro e9 w1 ⟨rfl, hG1, hC1⟩)
    have hk : Wk G D w w1 := Wk.of_chg hC1
    refine bodyPost_ret (results_none (by rfl) _ _ _) rfl ?_
    refine ⟨rfl, by rw [show ords N 0 os = [os] from rfl, addF_one]; exact hG1, hk, ?_⟩
    rcases hg with h | ⟨g, rfl, q1, q3, q4, q5⟩
    · exact .inl h
    · exact .inr ⟨g, rfl, q1, q3, q4, q5.chg hC1 (by omega)⟩
  | succ d ih =>
    intro N D dc os T w hN hg hv hT h1 h2 hG hs hB0
    have hX : ((N : Int) == (n : Int)) = false := by simp; omega
    have hX2 : ¬ (N : Int) = (n : Int) := by omega
    go_enter Try.func78, Try.ntmps78
    go_wp2
    go_loopw [15] (fun i wr => ∃ p : Nat, i = .int .i64 p ∧ p ≤ n ∧ Grow wr G n (fnRow n (addF F T (ordsTo n d os p))) ∧ Wk G D w wr ∧ Gro wr (Ba + 1) D dc N os) (fun i _ => n - (intOf i).toNat)
    case atStart => exact ⟨0, rfl, Nat.zero_le _, by rw [ordsTo_zero, addF_nil]; exact hG, Wk.refl _ _ _, hg⟩
    case round =>
      obtain ⟨p, rfl, hp, hGr, hwk, hgr⟩ := hrel
      have hz := hwk.size
      have hDn : ∀ k, k ≤ Ba → ¬ D = some ⟨k, 0, none⟩ := fun k hk e => by have q := hg.at_block e; omega
      have r1 := (hwk.cell (b := Bf) (o := 0) (by omega) (by omega) (hDn Bf (by omega))).trans h1
      have r2 := (hwk.cell (b := Ba) (o := 0) (by omega) (by omega) (hDn Ba (by omega))).trans h2
      have rB := hwk.below hB0 (Nat.le_refl _) (by omega) (fun k hk => hDn k (by omega))
      by_cases hlt : p < n
      · have hpi : (p : Int) < (n : Int) := by omega
        cases hcon : os.contains (p : Int) with
        | true =>
          go_wp2_with fail
          refine (contains_gro hgr (by omega) (p : Int)).mono ?_
          rintro e w9 ⟨he, rfl⟩
          rw [hcon] at he
          subst he
          go_wp2
          go_roundw
          case rel => exact ⟨p + 1, by go_num, by omega, by rw [ordsTo_yes hcon]; exact hGr, hwk, hgr⟩
          case measure => simp [intOf] <;> omega
        | false =>
          have hno := ordsTo_no (n := n) (d := d) hcon
          have hle := ordsTo_le (n := n) (d := d) (os := os) (show p + 1 ≤ n by omega)
          rw [hno, List.length_append] at hle
          have hall := congrArg List.length (ordsTo_all n d os)
          have hvn : ∀ o ∈ ords n d (os ++ [(p : Int)]), orderB n o = true := fun o ho => hv o (ords_in hlt hcon ho)
          have hTn : ∀ i, 0 ≤ addF F T (ordsTo n d os p) i ∧ addF F T (ordsTo n d os p) i + 20000 * (ords n d (os ++ [(p : Int)])).length ≤ 600000 := fun i => by
            have e1 := addF_rg hR T i (ordsTo n d os p)
            have e2 := hT i
            omega
          have IH := Lib.hid ih
          have HLH := Lib.hid hL
          have HRH := Lib.hid hR
          have HFH := Lib.hid hF
          have HEH := Lib.hid hE
          clear hall hle hv hT hL hR hF hE
          go_wp2_with fail
          refine (contains_gro hgr (by omega) (p : Int)).mono ?_
          rintro e w9 ⟨he, rfl⟩
          rw [hcon] at he
          subst he
          have gA := hgr.alloc (.cells #[.int .i64 (p : Int)] 3)
          have cA : (wr.alloc (.cells #[.int .i64 (p : Int)] 3)).cell? ⟨wr.heap.size, 0, none⟩ = some (.int .i64 (p : Int)) := by simp [go_sem]
          have bA : Below wr.heap.size wr (wr.alloc (.cells #[.int .i64 (p : Int)] 3)) := (Below.refl _ wr).alloc (Nat.le_refl _) _
          obtain ⟨wa, hwa⟩ : ∃ x, x = wr.alloc (.cells #[.int .i64 (p : Int)] 3) := ⟨_, rfl⟩
          rw [← hwa] at gA cA bA
          have HWA := Lib.hid hwa
          have zA := bA.size
          go_wp2_with (first
            | (rw [← HWA.out]
               refine append_app (by rfl) _ _ (by rfl) (by rfl) gA (by rfl) cA (by omega) ?_
               intro g c' w1 hap
               have gL := gA.longer hap (by omega)
               have hlt1 : Ba + 1 ≤ g := by
                 rcases hap.2 with ⟨q, _⟩ | ⟨q, _⟩
                 · exact gA.at_block q
                 · omega
               have hkA : Wk G D wa w1 := by
                 rcases hap.2 with ⟨q, _, q2⟩ | ⟨_, q2⟩
                 · exact Wk.of_own q2 q
                 · exact Wk.of_below q2
               have hkB : Wk G D wr w1 := (Wk.of_below bA).trans hkA
               have zB := hkB.size
               have s1 := (hkB.cell (b := Bf) (o := 0) (by omega) (by omega) (hDn Bf (by omega))).trans r1
               have s2 := (hkB.cell (b := Ba) (o := 0) (by omega) (by omega) (hDn Ba (by omega))).trans r2
               have sB := hkB.below rB (Nat.le_refl _) (by omega) (fun k hk => hDn k (by omega))
               have sG : Grow w1 G n (fnRow n (addF F T (ordsTo n d os p))) := by
                 have q := hGr.below bA hGr.lt
                 rcases hap.2 with ⟨_, _, q2⟩ | ⟨_, q2⟩
                 · exact q.chg q2 (by omega)
                 · exact q.below q2 q.lt)
            | (go_at_call 78
               refine (IH.out (N + 1) (some ⟨g, 0, none⟩) c' (os ++ [(p : Int)]) (addF F T (ordsTo n d os p)) w1 (by omega) gL hvn hTn s1 s2 sG (by omega) sB).mono ?_
               rintro e2 w2 ⟨rfl, tG, tk, tg⟩
               have tgr : Grow w2 g c' (os ++ [(p : Int)]) := by
                 rcases tg with ⟨q, _⟩ | ⟨g', q, _, _, _, q2⟩
                 · cases q
                 · injection q with q
                   injection q with q _ _
                   subst q; exact q2
               obtain ⟨hk2, hg2⟩ := walk_back gA hap tk tgr (by omega)
               have hk3 : Wk G D w w2 := (hwk.trans (Wk.of_below bA)).trans hk2
               rw [addF_append, ← hno] at tG
               have HFN := Lib.hid (And.intro tG (And.intro hk3 hg2))
               clear tG hk3 hg2 hk2 tgr tg tk s1 s2 sB sG hkB hkA gL hap))
          go_roundw
          case rel => exact ⟨p + 1, by go_num, by omega, HFN.out⟩
          case measure => simp [intOf] <;> omega
      · have hpe : p = n := by omega
        have HPE : Hid (fnRow n (addF F T (ordsTo n d os p)) = fnRow n (addF F T (ords n (d + 1) os))) := by rw [hpe, ordsTo_all]; rfl
        clear hpe
        go_wp2
        go_end0
        exact ⟨rfl, by rw [← HPE.out]; exact hGr, hwk, hgr⟩
theorem visits_all {n : Nat} {K : FuncId} {v1 : Value} {F : List Int → List Int} {w0 : World} (hE : Enters Try.prog K) (hF : RowOf K v1 n F w0) (hL : ∀ o, (F o).length = n) (hR : ∀ o k, 0 ≤ (F o).getD k 0 ∧ (F o).getD k 0 ≤ 20000) (Bf Ba G : Nat) (h4 : n ≤ 4) (w : World) (hbl : w0.heap.size ≤ Bf) (hbf : Bf < G) (hba : G < Ba)
    (h1 : w.cell? ⟨Bf, 0, none⟩ = some (.func (.func K) #[] #[v1])) (h2 : w.cell? ⟨Ba, 0, none⟩ = some (.slice (some ⟨G, 0, none⟩) n n)) (hG : Grow w G n (List.replicate n 0)) (hs : Ba < w.heap.size) (hB0 : Below w0.heap.size w0 w) :
    Calls Try.prog 78 #[.int .i64 (n : Int), .slice none 0 0, meanV Bf Ba] w fun e w' => e = .returned (.tuple #[]) ∧ Grow w' G n (fnRow n (addF F (fun _ => 0) (ords n n []))) ∧ Chg G (G + 1) w w' := by
  have hf := ords_few h4
  rw [← fnRow_zero] at hG
  refine (visits_any hE hF hL hR Bf Ba G h4 hbl hbf hba n 0 none 0 [] (fun _ => 0) w (by omega) (.inl ⟨rfl, rfl, rfl, rfl⟩) (fun o ho => ords_ok h4 ho) (fun i => by constructor <;> omega) h1 h2 hG hs hB0).mono ?_
  rintro e w' ⟨he, hg, hk, _⟩
  exact ⟨he, hg, hk.chg⟩

end Go.Proofs.Ytbegdcnljafloaa
