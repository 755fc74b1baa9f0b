/-
  The function value of ArrivalAwards: it adds an order's awards up. Premises: where the captured variables and the rows lie, an order, sums that fit.
-/
import Derived.Test.YtkkdolbbioeknaaWalkA
import Derived.BigQuiet
import Derived.Deep.Cut
namespace Go.Proofs.Ytkkdolbbioeknaa
open Go.RowKit

theorem implOrderAw_in (E : Int) (A : Option Addr) (c : Nat) (xs : List Int) (D : Option Addr) (d : Nat) (os : List Int) (w : World) (lo hi : Nat) (h : Ints w lo hi A xs) (hh : hi ≤ w.heap.size) (lo' hi' : Nat) (h' : Ints w lo' hi' D os) (hh' : hi' ≤ w.heap.size) (hok : caseOkB E xs = true) (ho : orderB xs.length os = true) {n : Nat} (hn : os.length = n) :
    Calls Try.prog 61 #[.agg #[.int .i64 E, .slice A xs.length c], .slice D n d] w (RetInts w (ordAw E xs os)) := by
  subst hn
  have hb := caseOk_bd hok
  have e := implOrderAwards_any E A c xs D d os w lo hi h hh (by omega) lo' hi' h' hh' (by have e := (order_iff ho).1; omega)
  rwa [ordRow, if_pos ⟨hok, ho⟩] at e
/-- A row to whose first j numbers those of another are added. -/
def addTo (T : Nat → Int) (O : List Int) (j : Nat) (i : Nat) : Int := if i < j then T i + O.getD i 0 else T i
theorem addTo_zero (T : Nat → Int) (O : List Int) (n : Nat) : fnRow n (addTo T O 0) = fnRow n T := fnRow_congr fun _ _ => if_neg (by omega)
theorem addTo_all (T : Nat → Int) (O : List Int) (n : Nat) : fnRow n (addTo T O n) = fnRow n (fun i => T i + O.getD i 0) := fnRow_congr fun _ hi => if_pos hi
theorem addTo_step {T : Nat → Int} {O : List Int} {n j : Nat} (hj : j < n) {v u : Int} (hv : v = (fnRow n (addTo T O j)).getD j 0) (hu : u = O.getD j 0) : (fnRow n (addTo T O j)).set j (v + u) = fnRow n (addTo T O (j + 1)) := by
  refine fnRow_set (fun i _ hn => ?_) ?_
  · unfold addTo
    by_cases e : i < j
    · rw [if_pos e, if_pos (by omega)]
    · rw [if_neg e, if_neg (by omega)]
  · rw [hv, fnRow_getD _ hj, hu]
    unfold addTo
    rw [if_neg (by omega), if_pos (by omega)]
theorem addTo_rg {E : Int} {xs os : List Int} (h : caseOkB E xs = true) {T : Nat → Int} (hT : ∀ i, 0 ≤ T i ∧ T i ≤ 600000) {n j k : Nat} (hk : k < n) : 0 ≤ (fnRow n (addTo T (ordAw E xs os) j)).getD k 0 ∧ (fnRow n (addTo T (ordAw E xs os) j)).getD k 0 ≤ 700000 := by
  rw [fnRow_getD _ hk]
  have e := hT k
  have e2 := ordAw_rg (os := os) h k
  unfold addTo
  split <;> omega

set_option maxRecDepth 10000 in
set_option maxHeartbeats 1000000 in
theorem arrAdd_any (E : Int) (A : Option Addr) (c : Nat) (xs : List Int) (D : Option Addr) (d : Nat) (os : List Int) (Bc Ba G : Nat) (T : Nat → Int) (w : World) (lo hi lo' hi' : Nat) (h0 : w.cell? ⟨Bc, 0, none⟩ = some (.int .i64 E)) (h1 : w.cell? ⟨Bc, 1, none⟩ = some (.slice A xs.length c)) (h2 : w.cell? ⟨Ba, 0, none⟩ = some (.slice (some ⟨G, 0, none⟩) xs.length xs.length)) (hG : Grow w G xs.length (fnRow xs.length T)) (hI : Ints w lo hi A xs) (hh : hi ≤ G) (hbc : Bc < G) (hba : G < Ba) (hbs : Ba < w.heap.size) (hO : Ints w lo' hi' D os) (hlo : G < lo') (hh' : hi' ≤ w.heap.size) (hok : caseOkB E xs = true) (ho : orderB xs.length os = true) (hT : ∀ i, 0 ≤ T i ∧ T i ≤ 600000) :
    Calls Try.prog 60 #[.slice D os.length d, .pointer (some ⟨Bc, 0, none⟩), .pointer (some ⟨Ba, 0, none⟩)] w fun e w' => e = .returned (.tuple #[]) ∧ Grow w' G xs.length (fnRow xs.length (fun i => T i + (ordAw E xs os).getD i 0)) ∧ Chg G (G + 1) w w' := by
  have HCB := Lib.hid hok
  have HOB := Lib.hid ho
  have HT := Lib.hid hT
  have hbd := caseOk_bd hok
  have hol : os.length ≤ xs.length := by have e := (order_iff ho).1; omega
  have HLG : Hid ((fnRow xs.length T).length = xs.length) := fnRow_length _ _
  clear hok ho hT
  go_enter Try.func60, Try.ntmps60
  go_wp2_with fail
  refine (implOrderAw_in E A c xs D d os _ _ _ hI (by first | omega | (simp; omega) | simp) _ _ hO (by first | omega | (simp; omega) | simp) HCB.out HOB.out (by rfl)).mono ?_
  rintro e w1 ⟨A2_, c3_, rfl, ho4_, hb1_⟩
  have o5_ := hI.below hb1_ (by first | omega | (simp; omega) | simp)
  have o6_ := hO.below hb1_ (by first | omega | (simp; omega) | simp)
  have o7_ := hG.below hb1_ (by first | omega | (simp; omega) | simp)
  have o8_ := (hb1_.cell (p := ⟨Bc, 0, none⟩) (by first | omega | (simp; omega) | simp)).trans h0
  have o9_ := (hb1_.cell (p := ⟨Bc, 1, none⟩) (by first | omega | (simp; omega) | simp)).trans h1
  have o10_ := (hb1_.cell (p := ⟨Ba, 0, none⟩) (by first | omega | (simp; omega) | simp)).trans h2
  have z11_ := hb1_.size
  have B12_ := (Chg.refl G (G + 1) w).trans (Chg.of_below hb1_)
  clear hb1_
  have hol1 : (ordAw E xs os).length ≤ xs.length := by rw [ordAw_length]; omega
  have hol2 : xs.length ≤ (ordAw E xs os).length := by rw [ordAw_length]; omega
  go_wp2
  go_loopw [10] (fun i wr => ∃ j : Nat, i = .int .i64 j ∧ (j ≤ xs.length) ∧ Grow wr G xs.length (fnRow xs.length (addTo T (ordAw E xs os) j)) ∧ Chg G (G + 1) w wr ∧ w1.heap.size ≤ wr.heap.size ∧ Ints wr (lo) (hi) A xs ∧ Ints wr (lo') (hi') D os ∧ Own wr (w.heap.size) (w1.heap.size) A2_ (ordAw E xs os) ∧ wr.cell? ⟨Bc, 0, none⟩ = some (.int .i64 E) ∧ wr.cell? ⟨Bc, 1, none⟩ = some (.slice A xs.length c) ∧ wr.cell? ⟨Ba, 0, none⟩ = some (.slice (some ⟨G, 0, none⟩) xs.length xs.length)) (fun i _ => (ordAw E xs os).length - (intOf i).toNat)
  case atStart => exact ⟨0, rfl, Nat.zero_le _, (by rw [addTo_zero]; exact o7_), B12_, (by first | omega | (simp; omega) | simp), o5_, o6_, ho4_, o8_, o9_, o10_⟩
  case round =>
    obtain ⟨j, rfl, hj, G14_, k15_, k16_, k17_, k18_, k19_, k20_, k21_, k22_⟩ := hrel
    obtain ⟨w13, rfl⟩ : ∃ x, x = wr := ⟨_, rfl⟩
    have HL23_ : Hid ((fnRow xs.length (addTo T (ordAw E xs os) j)).length = xs.length) := (fnRow_length _ _)
    have l24_ := G14_.lt
    by_cases hlt0 : j < (ordAw E xs os).length
    · obtain ⟨b25_, f26_, rfl, b25_l, b25_h, -⟩ := k19_.ints (by rw [ordAw_length]; omega)
      have c27_ : w13.cell? ⟨b25_, f26_ + j, none⟩ = some (.int .i64 ((ordAw E xs os).getD j 0)) := k19_.ints.at2 j (by first | omega | (simp; omega) | simp)
      have c27_i : (j : Int) < ((ordAw E xs os).length : Int) := by omega
      have c27_j : (0 : Int) ≤ (j : Int) := by omega
      have v28_g := ordAw_rg (os := os) HCB.out j
      obtain ⟨v28_, hv28_⟩ : ∃ v, v = (ordAw E xs os).getD j 0 := ⟨_, rfl⟩
      rw [← hv28_] at c27_ v28_g
      have Hv28_ := Lib.hid hv28_
      clear hv28_
      obtain ⟨v28_g1, v28_g2⟩ := v28_g
      have c29_ : w13.cell? ⟨G, j, none⟩ = some (.int .i64 ((fnRow xs.length (addTo T (ordAw E xs os) j)).getD j 0)) := G14_.at_ j (by rw [fnRow_length]; omega)
      have c29_i : (j : Int) < (xs.length : Int) := by omega
      have c29_j : (0 : Int) ≤ (j : Int) := by omega
      have v30_g := addTo_rg HCB.out HT.out (os := os) (n := xs.length) (j := j) (k := j) (by omega)
      obtain ⟨v30_, hv30_⟩ : ∃ v, v = (fnRow xs.length (addTo T (ordAw E xs os) j)).getD j 0 := ⟨_, rfl⟩
      rw [← hv30_] at c29_ v30_g
      have Hv30_ := Lib.hid hv30_
      clear hv30_
      obtain ⟨v30_g1, v30_g2⟩ := v30_g
      have c32_ := G14_.at_ j (by rw [fnRow_length]; omega)
      have c32_f := G14_.soft j (by rw [fnRow_length]; omega)
      have c32_i : (j : Int) < (xs.length : Int) := by omega
      have c32_j : (0 : Int) ≤ (j : Int) := by omega
      clear c32_
      have hC31_ := Chg.setCell (lo := G) (hi := G + 1) w13 (p := ⟨G, j, none⟩) ⟨Nat.le_refl _, Nat.lt_succ_self _⟩ (.int .i64 (v30_ + v28_))
      have G33_ := G14_.store j (v30_ + v28_)
      have o34_ := k17_.chg hC31_ (by first | omega | (simp; omega) | simp) (by omega)
      have o35_ := k18_.chg hC31_ (by first | omega | (simp; omega) | simp) (by omega)
      have o36_ := k19_.chg hC31_ (by first | omega | (simp; omega) | simp) (by omega)
      have o37_ := (hC31_.cell (p := ⟨Bc, 0, none⟩) (by first | omega | (simp; omega) | simp) (by first | omega | (simp; omega) | simp)).trans k20_
      have o38_ := (hC31_.cell (p := ⟨Bc, 1, none⟩) (by first | omega | (simp; omega) | simp) (by first | omega | (simp; omega) | simp)).trans k21_
      have o39_ := (hC31_.cell (p := ⟨Ba, 0, none⟩) (by first | omega | (simp; omega) | simp) (by first | omega | (simp; omega) | simp)).trans k22_
      have z40_ := hC31_.size
      try simp at z40_
      have B41_ := k15_.trans hC31_
      clear hC31_
      go_wp2
      go_roundw
      case rel => exact ⟨j + 1, by go_num, by omega, (by rw [← addTo_step (v := v30_) (u := v28_) (by omega) Hv30_.out Hv28_.out]; exact G33_), B41_, (by first | omega | (simp; omega) | simp), o34_, o35_, o36_, o37_, o38_, o39_⟩
      case measure => simp [intOf] <;> omega
    · obtain rfl : j = xs.length := by omega
      have hfin := addTo_all T (ordAw E xs os) xs.length
      go_wp2
      go_end0
      exact ⟨rfl, by rw [← hfin]; exact G14_, k15_⟩


end Go.Proofs.Ytkkdolbbioeknaa
