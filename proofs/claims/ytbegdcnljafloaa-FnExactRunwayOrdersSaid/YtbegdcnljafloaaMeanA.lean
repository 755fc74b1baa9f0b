/-
  The function value of meanOfOrders: it adds up what another one gives for an order. Premises: where the captured variables and the rows lie, an order, sums that fit.
-/
import Derived.Test.YtbegdcnljafloaaMean
import Derived.BigQuiet
import Derived.Deep.Cut
namespace Go.Proofs.Ytbegdcnljafloaa
open Go.RowKit

set_option maxRecDepth 10000 in
set_option maxHeartbeats 1000000 in
theorem rowAdd_any {n : Nat} {K : FuncId} {v1 : Value} {F : List Int → List Int} {w0 : World} (hE : Enters Try.prog K) (hF : RowOf K v1 n F w0) (hL : ∀ o, (F o).length = n) (hR : ∀ o k, 0 ≤ (F o).getD k 0 ∧ (F o).getD k 0 ≤ 20000) (D : Option Addr) (d : Nat) (os : List Int) (Bf Ba G : Nat) (T : Nat → Int) (w : World) (lo' hi' : Nat) (h1 : w.cell? ⟨Bf, 0, none⟩ = some (.func (.func K) #[] #[v1])) (h2 : w.cell? ⟨Ba, 0, none⟩ = some (.slice (some ⟨G, 0, none⟩) n n)) (hG : Grow w G n (fnRow n T)) (hbf : Bf < G) (hba : G < Ba) (hbs : Ba < w.heap.size) (hO : Ints w lo' hi' D os) (hlo : G < lo') (hh' : hi' ≤ w.heap.size) (hB0 : Below w0.heap.size w0 w) (ho : orderB n os = true) (hT : ∀ i, 0 ≤ T i ∧ T i ≤ 600000) (h4 : n ≤ 4) :
    Calls Try.prog 79 #[.slice D n d, .pointer (some ⟨Bf, 0, none⟩), .pointer (some ⟨Ba, 0, none⟩)] w fun e w' => e = .returned (.tuple #[]) ∧ Grow w' G n (fnRow n (fun i => T i + (F os).getD i 0)) ∧ Chg G (G + 1) w w' := by
  have HOB := Lib.hid ho
  have HT := Lib.hid hT
  have HF := Lib.hid hF
  have HLF := Lib.hid (hL os)
  have HR := Lib.hid hR
  have hEn : ∀ (args : Array Value) (w : World), (callFunc K args).run Try.prog w = .ok (.enter K args) w := hE
  have hol : os.length ≤ n := by have e := (order_iff ho).1; omega
  have HLG : Hid ((fnRow n T).length = n) := fnRow_length _ _
  clear ho hT hF hL hR hE
  go_enter Try.func79, Try.ntmps79
  go_wp2_with fail
  refine (HF.out D d os w lo' hi' hB0 hO hh' HOB.out).mono ?_
  rintro e w1 ⟨A2_, c3_, rfl, ho4_, hb1_⟩
  have o5_ := hO.below hb1_ (by first | omega | (simp; omega) | simp)
  have o6_ := hG.below hb1_ (by first | omega | (simp; omega) | simp)
  have o7_ := (hb1_.cell (p := ⟨Bf, 0, none⟩) (by first | omega | (simp; omega) | simp)).trans h1
  have o8_ := (hb1_.cell (p := ⟨Ba, 0, none⟩) (by first | omega | (simp; omega) | simp)).trans h2
  have z9_ := hb1_.size
  have B10_ := (Chg.refl G (G + 1) w).trans (Chg.of_below hb1_)
  clear hb1_
  have hol1 : (F os).length ≤ n := by rw [HLF.out]; exact Nat.le_refl _
  have hol2 : n ≤ (F os).length := by rw [HLF.out]; exact Nat.le_refl _
  go_wp2
  go_loopw [10] (fun i wr => ∃ j : Nat, i = .int .i64 j ∧ (j ≤ n) ∧ Grow wr G n (fnRow n (addsTo T (F os) j)) ∧ Chg G (G + 1) w wr ∧ w1.heap.size ≤ wr.heap.size ∧ Ints wr (lo') (hi') D os ∧ Own wr (w.heap.size) (w1.heap.size) A2_ (F os) ∧ wr.cell? ⟨Bf, 0, none⟩ = some (.func (.func K) #[] #[v1]) ∧ wr.cell? ⟨Ba, 0, none⟩ = some (.slice (some ⟨G, 0, none⟩) n n)) (fun i _ => (F os).length - (intOf i).toNat)
  case atStart => exact ⟨0, rfl, Nat.zero_le _, (by rw [addsTo_zero]; exact o6_), B10_, (by first | omega | (simp; omega) | simp), o5_, ho4_, o7_, o8_⟩
  case round =>
    obtain ⟨j, rfl, hj, G12_, k13_, k14_, k15_, k16_, k17_, k18_⟩ := hrel
    obtain ⟨w11, rfl⟩ : ∃ x, x = wr := ⟨_, rfl⟩
    have HL19_ : Hid ((fnRow n (addsTo T (F os) j)).length = n) := (fnRow_length _ _)
    have l20_ := G12_.lt
    by_cases hlt0 : j < (F os).length
    · obtain ⟨b21_, f22_, rfl, b21_l, b21_h, -⟩ := k16_.ints (by omega)
      have c23_ : w11.cell? ⟨b21_, f22_ + j, none⟩ = some (.int .i64 ((F os).getD j 0)) := k16_.ints.at2 j (by first | omega | (simp; omega) | simp)
      have c23_i : (j : Int) < ((F os).length : Int) := by omega
      have c23_j : (0 : Int) ≤ (j : Int) := by omega
      have v24_g := HR.out os j
      obtain ⟨v24_, hv24_⟩ : ∃ v, v = (F os).getD j 0 := ⟨_, rfl⟩
      rw [← hv24_] at c23_ v24_g
      have Hv24_ := Lib.hid hv24_
      clear hv24_
      obtain ⟨v24_g1, v24_g2⟩ := v24_g
      have c25_ : w11.cell? ⟨G, j, none⟩ = some (.int .i64 ((fnRow n (addsTo T (F os) j)).getD j 0)) := G12_.at_ j (by rw [fnRow_length]; omega)
      have c25_i : (j : Int) < (n : Int) := by omega
      have c25_j : (0 : Int) ≤ (j : Int) := by omega
      have v26_g := addsTo_rg (HR.out os) HT.out (n := n) (j := j) (k := j) (by omega)
      obtain ⟨v26_, hv26_⟩ : ∃ v, v = (fnRow n (addsTo T (F os) j)).getD j 0 := ⟨_, rfl⟩
      rw [← hv26_] at c25_ v26_g
      have Hv26_ := Lib.hid hv26_
      clear hv26_
      obtain ⟨v26_g1, v26_g2⟩ := v26_g
      have c28_ := G12_.at_ j (by rw [fnRow_length]; omega)
      have c28_f := G12_.soft j (by rw [fnRow_length]; omega)
      have c28_i : (j : Int) < (n : Int) := by omega
      have c28_j : (0 : Int) ≤ (j : Int) := by omega
      clear c28_
      have hC27_ := Chg.setCell (lo := G) (hi := G + 1) w11 (p := ⟨G, j, none⟩) ⟨Nat.le_refl _, Nat.lt_succ_self _⟩ (.int .i64 (v26_ + v24_))
      have G29_ := G12_.store j (v26_ + v24_)
      have o30_ := k15_.chg hC27_ (by first | omega | (simp; omega) | simp) (by omega)
      have o31_ := k16_.chg hC27_ (by first | omega | (simp; omega) | simp) (by omega)
      have o32_ := (hC27_.cell (p := ⟨Bf, 0, none⟩) (by first | omega | (simp; omega) | simp) (by first | omega | (simp; omega) | simp)).trans k17_
      have o33_ := (hC27_.cell (p := ⟨Ba, 0, none⟩) (by first | omega | (simp; omega) | simp) (by first | omega | (simp; omega) | simp)).trans k18_
      have z34_ := hC27_.size
      try simp at z34_
      have B35_ := k13_.trans hC27_
      clear hC27_
      go_wp2
      go_roundw
      case rel => exact ⟨j + 1, by go_num, by omega, (by rw [← addsTo_step (v := v26_) (u := v24_) (by omega) Hv26_.out Hv24_.out]; exact G29_), B35_, (by first | omega | (simp; omega) | simp), o30_, o31_, o32_, o33_⟩
      case measure => simp [intOf] <;> omega
    · have HJE : Hid (j = n) := by show _ = _; omega
      have hfin : fnRow n (addsTo T (F os) j) = fnRow n (fun i => T i + (F os).getD i 0) := by rw [HJE.out]; exact addsTo_all T (F os) n
      have HFIN := Lib.hid hfin
      clear hfin
      go_wp2
      go_end0
      exact ⟨rfl, by rw [← HFIN.out]; exact G12_, k13_⟩


end Go.Proofs.Ytbegdcnljafloaa
