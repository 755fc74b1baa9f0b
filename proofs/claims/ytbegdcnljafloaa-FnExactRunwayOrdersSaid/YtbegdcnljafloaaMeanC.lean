/-
  The program's function meanOfOrders: the mean over all orders of what a function value gives. It makes new memory only. Premises: how many people there are, and what the function value gives.
-/
import Derived.Test.YtbegdcnljafloaaMeanB
import Derived.BigQuiet
import Derived.Deep.Cut
namespace Go.Proofs.Ytbegdcnljafloaa
open Go.RowKit

set_option maxRecDepth 10000 in
set_option maxHeartbeats 1000000 in
theorem meanOf_any {n : Nat} {K : FuncId} {v1 : Value} {F : List Int → List Int} {w : World} (hE : Enters Try.prog K) (hF : RowOf K v1 n F w) (hL : ∀ o, (F o).length = n) (hR : ∀ o k, 0 ≤ (F o).getD k 0 ∧ (F o).getD k 0 ≤ 20000) (h1 : 1 ≤ n) (h4 : n ≤ 4) :
    Calls Try.prog 72 #[.int .i64 (n : Int), .func (.func K) #[] #[v1]] w (RetInts w (meanRow F n)) := by
  have HF := Lib.hid hF
  have HE := Lib.hid hE
  have HLF := Lib.hid hL
  have HR := Lib.hid hR
  clear hF hE hL hR
  go_enter Try.func72, Try.ntmps72
  have B1_ := (Below.refl w.heap.size w).alloc (Nat.le_refl _) (.cells #[.func (.func K) #[] #[v1]] 39)
  have a2_ : (w.alloc (.cells #[.func (.func K) #[] #[v1]] 39)).cell? ⟨w.heap.size, 0, none⟩ = some (.func (.func K) #[] #[v1]) := by simp [go_sem]
  go_upto_region 2 with (at_make; (refine make_gr (by rfl) _ _ (by rfl) (n := n) (x := (n : Int)) (by omega) (by rfl) (by rfl) (by omega) ?_; intro w3 G3_ hb4_))
  have G3_ : Grow w3 (w.heap.size + 1) n (List.replicate n 0) := by have e := G3_; simp only [hsz] at e; exact e
  have o6_ := (hb4_.cell (p := ⟨w.heap.size, 0, none⟩) (by first | omega | (simp; omega) | simp)).trans a2_
  have z7_ := hb4_.size
  try simp at z7_
  have B8_ := B1_.trans (hb4_.mono (by first | omega | (simp; omega) | simp))
  clear hb4_
  have l9_ := G3_.lt
  have HL10_ : Hid ((List.replicate n 0).length = n) := List.length_replicate
  have o11_ := G3_.alloc (.cells #[.slice (some ⟨(w.heap.size + 1), 0, none⟩) n n] 29)
  have o12_ := cell_alloc (o := (.cells #[.slice (some ⟨(w.heap.size + 1), 0, none⟩) n n] 29)) o6_ (by first | omega | (simp; omega) | simp)
  have B13_ := B8_.alloc (by first | omega | (simp; omega) | simp) (.cells #[.slice (some ⟨(w.heap.size + 1), 0, none⟩) n n] 29)
  have a14_ : (w3.alloc (.cells #[.slice (some ⟨(w.heap.size + 1), 0, none⟩) n n] 29)).cell? ⟨w3.heap.size, 0, none⟩ = some (.slice (some ⟨(w.heap.size + 1), 0, none⟩) n n) := by simp [go_sem]
  have hmf : ∀ (fn : Fn) (first cap : Array Value) (w : World), (Instr.makeFunc fn first cap).run Try.prog w = .ok (.func fn first cap) w := fun _ _ _ _ => rfl
  go_wp2_with fail
  refine (visits_all HE.out HF.out HLF.out HR.out w.heap.size w3.heap.size (w.heap.size + 1) h4 _ (by first | omega | (simp; omega) | simp) (by first | omega | (simp; omega) | simp) (by first | omega | (simp; omega) | simp) o12_ a14_ o11_ (by first | omega | (simp; omega) | simp) B13_).mono ?_
  rintro e w15 ⟨rfl, G17_, hC16_⟩
  clear hmf
  have o18_ := (hC16_.cell (p := ⟨w.heap.size, 0, none⟩) (by first | omega | (simp; omega) | simp) (by first | omega | (simp; omega) | simp)).trans o12_
  have o19_ := (hC16_.cell (p := ⟨w3.heap.size, 0, none⟩) (by first | omega | (simp; omega) | simp) (by first | omega | (simp; omega) | simp)).trans a14_
  have z20_ := hC16_.size
  try simp at z20_
  have B21_ := B13_.trans (hC16_.below (by omega) (by first | omega | (simp; omega) | simp))
  clear hC16_
  have HL22_ : Hid ((fnRow n (addF F (fun _ => 0) (ords n n []))).length = n) := fnRow_length _ _
  go_wp2
  go_loopw [14] (fun i wr => ∃ q : Nat, i = .int .i64 q ∧ (q ≤ n) ∧ Grow wr (w.heap.size + 1) n (fnRow n (meanTo F n q)) ∧ Below w.heap.size w wr ∧ w15.heap.size ≤ wr.heap.size ∧ wr.cell? ⟨w.heap.size, 0, none⟩ = some (.func (.func K) #[] #[v1]) ∧ wr.cell? ⟨w3.heap.size, 0, none⟩ = some (.slice (some ⟨(w.heap.size + 1), 0, none⟩) n n)) (fun i _ => n - (intOf i).toNat)
  case atStart => exact ⟨0, rfl, Nat.zero_le _, (by rw [meanTo_zero]; exact G17_), B21_, (by first | omega | (simp; omega) | simp), o18_, o19_⟩
  case round =>
    obtain ⟨q, rfl, hq, G24_, k25_, k26_, k27_, k28_⟩ := hrel
    obtain ⟨w23, rfl⟩ : ∃ x, x = wr := ⟨_, rfl⟩
    have HL29_ : Hid ((fnRow n (meanTo F n q)).length = n) := (fnRow_length _ _)
    have l30_ := G24_.lt
    by_cases hlt0 : q < n
    · have c31_ : w23.cell? ⟨(w.heap.size + 1), q, none⟩ = some (.int .i64 ((fnRow n (meanTo F n q)).getD q 0)) := G24_.at_ q (by rw [fnRow_length]; omega)
      have c31_i : (q : Int) < (n : Int) := by omega
      have c31_j : (0 : Int) ≤ (q : Int) := by omega
      have v32_g := meanTo_rg HR.out h4 (q := q) (k := q) (by omega) (by omega)
      obtain ⟨v32_, hv32_⟩ : ∃ v, v = (fnRow n (meanTo F n q)).getD q 0 := ⟨_, rfl⟩
      rw [← hv32_] at c31_ v32_g
      have Hv32_ := Lib.hid hv32_
      clear hv32_
      obtain ⟨v32_g1, v32_g2⟩ := v32_g
      obtain ⟨v33_, hv33_⟩ : ∃ v, fac n = v := ⟨_, rfl⟩
      have bv33_ : 1 ≤ v33_ ∧ v33_ ≤ 24 := by rw [← hv33_]; exact fac_bd (by omega)
      obtain ⟨bv33_1, bv33_2⟩ := bv33_
      have Hv33_ := Lib.hid hv33_
      clear hv33_
      have hq34_a := Int.ediv_nonneg (show 0 ≤ v32_ by omega) (show 0 ≤ v33_ by omega)
      have hq34_b := Int.ediv_le_self v33_ (show 0 ≤ v32_ by omega)
      have hq34_ : IntKind.i64.wrap (v32_.tdiv v33_) = v32_ / v33_ := by rw [Int.tdiv_eq_ediv_of_nonneg (by omega)]; exact IntWalk.i64_in _ (by omega)
      have hq34_y : (v33_ == 0) = false := by simp only [beq_eq_false_iff_ne]; omega
      have hq34_z : (v33_ = 0) = False := eq_false (by omega)
      have c35_ := c31_
      have c35_f := G24_.soft q (by rw [fnRow_length]; omega)
      have c35_i : (q : Int) < (n : Int) := by omega
      have c35_j : (0 : Int) ≤ (q : Int) := by omega
      have g36_ : w.heap.size < w23.heap.size := (by first | omega | (simp; omega) | simp)
      have g37_ : w3.heap.size < w23.heap.size := (by first | omega | (simp; omega) | simp)
      have g38_ : (w.heap.size + 1) < w23.heap.size := (by first | omega | (simp; omega) | simp)
      have d39_ : Grow (w23.drew) (w.heap.size + 1) n (fnRow n (meanTo F n q)) := G24_
      have zd40_ : (w23.drew).heap.size = w23.heap.size := rfl
      go_wp2_with fail
      go_region_law (first | (go_simp; go_at_call 80; (with_reducible refine (same_is (countOrders_at (n : Int) n _ (by omega) rfl) (congrArg (Value.int .i64) Hv33_.out)).mono ?_); rintro e w9 ⟨rfl, rfl⟩))
      all_goals
        obtain ⟨w41, hw41⟩ : ∃ x, x = (w23.setCell ⟨(w.heap.size + 1), q, none⟩ (.int .i64 (v32_ / v33_))).drew := ⟨_, rfl⟩
        rw [← hw41]
        have hC42_ : Chg (w.heap.size + 1) ((w.heap.size + 1) + 1) w23 w41 := by rw [hw41]; exact (Chg.setCell (lo := (w.heap.size + 1)) (hi := (w.heap.size + 1) + 1) w23 (p := ⟨(w.heap.size + 1), q, none⟩) ⟨Nat.le_refl _, Nat.lt_succ_self _⟩ (.int .i64 (v32_ / v33_))).drewR
        have G43_ : Grow w41 (w.heap.size + 1) n ((fnRow n (meanTo F n q)).set q (v32_ / v33_)) := by rw [hw41]; exact (G24_.store q (v32_ / v33_)).drew
        clear hw41
        have o44_ := (hC42_.cell (p := ⟨w.heap.size, 0, none⟩) (by first | omega | (simp; omega) | simp) (by first | omega | (simp; omega) | simp)).trans k27_
        have o45_ := (hC42_.cell (p := ⟨w3.heap.size, 0, none⟩) (by first | omega | (simp; omega) | simp) (by first | omega | (simp; omega) | simp)).trans k28_
        have z46_ := hC42_.size
        have B47_ := k25_.trans (hC42_.below (by omega) (by first | omega | (simp; omega) | simp))
        clear hC42_
        have HL48_ : Hid (((fnRow n (meanTo F n q)).set q (v32_ / v33_)).length = n) := by show _ = _; rw [List.length_set]; first | rfl | omega | exact HL29_.out
        go_wp2
        go_roundw
        case rel => exact ⟨q + 1, by go_num, by omega, (by rw [← meanTo_step (v := v32_) (f := v33_) (by omega) Hv32_.out Hv33_.out]; exact G43_), B47_, (by first | omega | (simp; omega) | simp), o44_, o45_⟩
        case measure => simp [intOf] <;> omega
    · have HQE : Hid (q = n) := by show _ = _; omega
      have hfin : meanRow F n = fnRow n (meanTo F n q) := by rw [HQE.out]; exact (meanTo_all F n).symm
      have HFIN := Lib.hid hfin
      clear hfin
      go_wp2
      go_ret
      rw [HFIN.out]
      (refine retInts_grow G24_ (by omega) ?_ k25_; rw [fnRow_length])


end Go.Proofs.Ytbegdcnljafloaa
