/-
  The program's function ArrivalAwards: the mean over all orders. It makes new memory only. No condition but lengths that fit.
-/
import Derived.Test.YtkkdolbbioeknaaWalkC
import Derived.BigQuiet
import Derived.Deep.Cut
namespace Go.Proofs.Ytkkdolbbioeknaa
open Go.RowKit

theorem walk_all (E : Int) (A : Option Addr) (c : Nat) (xs : List Int) (Bc Ba G lo hi : Nat) (w : World) (hok : caseOkB E xs = true) (hh : hi ≤ G) (hbc : Bc < G) (hba : G < Ba) (h0 : w.cell? ⟨Bc, 0, none⟩ = some (.int .i64 E)) (h1 : w.cell? ⟨Bc, 1, none⟩ = some (.slice A xs.length c)) (h2 : w.cell? ⟨Ba, 0, none⟩ = some (.slice (some ⟨G, 0, none⟩) xs.length xs.length)) (hG : Grow w G xs.length (List.replicate xs.length 0)) (hI : Ints w lo hi A xs) (hs : Ba < w.heap.size) :
    Calls Try.prog 59 #[.int .i64 (xs.length : Int), .slice none 0 0, visitV Bc Ba] w fun e w' => e = .returned (.tuple #[]) ∧ Grow w' G xs.length (fnRow xs.length (addL E xs (fun _ => 0) (ords xs.length xs.length []))) ∧ Chg G (G + 1) w w' := by
  have hb := caseOk_bd hok
  have hf := ords_few (n := xs.length) (by omega)
  rw [← fnRow_zero] at hG
  refine (walk_any E A c xs Bc Ba G lo hi hok hh hbc hba xs.length 0 none 0 [] (fun _ => 0) w (by omega) (.inl ⟨rfl, rfl, rfl, rfl⟩) (fun o ho => ords_ok (by omega) ho) (fun i => by constructor <;> omega) h0 h1 h2 hG hI hs).mono ?_
  rintro e w' ⟨he, hg, hk, _⟩
  exact ⟨he, hg, hk.chg⟩
/-- The row of which the first q numbers are divided. -/
def divTo (E : Int) (xs : List Int) (q i : Nat) : Int := if i < q then arrAt E xs i else addL E xs (fun _ => 0) (ords xs.length xs.length []) i
theorem divTo_zero (E : Int) (xs : List Int) : fnRow xs.length (divTo E xs 0) = fnRow xs.length (addL E xs (fun _ => 0) (ords xs.length xs.length [])) := fnRow_congr fun _ _ => if_neg (by omega)
theorem divTo_all (E : Int) (xs : List Int) : fnRow xs.length (divTo E xs xs.length) = arr E xs := by rw [arr_fn]; exact fnRow_congr fun _ hi => if_pos hi
theorem divTo_step {E : Int} {xs : List Int} (h : caseOkB E xs = true) {q : Nat} (hq : q < xs.length) {v F : Int} (hv : v = (fnRow xs.length (divTo E xs q)).getD q 0) (hF : fac xs.length = F) : (fnRow xs.length (divTo E xs q)).set q (v / F) = fnRow xs.length (divTo E xs (q + 1)) := by
  refine fnRow_set (fun i _ hn => ?_) ?_
  · unfold divTo
    by_cases e : i < q
    · rw [if_pos e, if_pos (by omega)]
    · rw [if_neg e, if_neg (by omega)]
  · rw [hv, fnRow_getD _ hq, ← hF]
    unfold divTo
    rw [if_neg (by omega), if_pos (by omega)]
    exact addL_all h hq
theorem divTo_rg {E : Int} {xs : List Int} (h : caseOkB E xs = true) {q k : Nat} (hk : k < xs.length) (hq : q ≤ k) : 0 ≤ (fnRow xs.length (divTo E xs q)).getD k 0 ∧ (fnRow xs.length (divTo E xs q)).getD k 0 ≤ 60000 := by
  have hb := caseOk_bd h
  have hf := ords_few (n := xs.length) (by omega)
  have e := addL_rg h (fun _ => 0) k (ords xs.length xs.length [])
  rw [fnRow_getD _ hk]
  unfold divTo
  rw [if_neg (by omega)]
  constructor <;> omega

set_option maxRecDepth 10000 in
set_option maxHeartbeats 1000000 in
theorem implArrivalAwards_yes (E : Int) (A : Option Addr) (c : Nat) (xs : List Int) (w : World) (lo hi : Nat) (h : Ints w lo hi A xs) (hh : hi ≤ w.heap.size) (hl : xs.length ≤ 1152921504606846976) (hok : caseOkB E xs = true) :
    Calls Try.prog 38 #[.agg #[.int .i64 E, .slice A xs.length c]] w (RetInts w (arrRow E xs)) := by
  have HCB := Lib.hid hok
  clear hok
  have hbd := caseOk_bd HCB.out
  go_enter Try.func38, Try.ntmps38
  have o1_ := h.alloc (by first | omega | (simp; omega) | simp) (.cells #[.int .i64 E, .slice A xs.length c] 28)
  have B2_ := (Below.refl w.heap.size w).alloc (Nat.le_refl _) (.cells #[.int .i64 E, .slice A xs.length c] 28)
  have a3_ : (w.alloc (.cells #[.int .i64 E, .slice A xs.length c] 28)).cell? ⟨w.heap.size, 0, none⟩ = some (.int .i64 E) := by simp [go_sem]
  have a4_ : (w.alloc (.cells #[.int .i64 E, .slice A xs.length c] 28)).cell? ⟨w.heap.size, 1, none⟩ = some (.slice A xs.length c) := by simp [go_sem]
  go_wp2_with fail
  refine (implCaseOk_any E A c xs _ _ _ o1_ (by first | omega | (simp; omega) | simp) hl).mono ?_
  rintro e w5 ⟨he, hb5_⟩
  rw [HCB.out] at he
  subst he
  have o6_ := o1_.below hb5_ (by first | omega | (simp; omega) | simp)
  have o7_ := (hb5_.cell (p := ⟨w.heap.size, 0, none⟩) (by first | omega | (simp; omega) | simp)).trans a3_
  have o8_ := (hb5_.cell (p := ⟨w.heap.size, 1, none⟩) (by first | omega | (simp; omega) | simp)).trans a4_
  have z9_ := hb5_.size
  try simp at z9_
  have B10_ := B2_.trans (hb5_.mono (by first | omega | (simp; omega) | simp))
  clear hb5_
  go_upto_region 5 with (at_make; (refine make_gr (by rfl) _ _ (by rfl) (n := xs.length) (x := (xs.length : Int)) (by omega) (by rfl) (by rfl) (by omega) ?_; intro w11 G11_ hb12_))
  have o14_ := o6_.below hb12_ (by first | omega | (simp; omega) | simp)
  have o15_ := (hb12_.cell (p := ⟨w.heap.size, 0, none⟩) (by first | omega | (simp; omega) | simp)).trans o7_
  have o16_ := (hb12_.cell (p := ⟨w.heap.size, 1, none⟩) (by first | omega | (simp; omega) | simp)).trans o8_
  have z17_ := hb12_.size
  have B18_ := B10_.trans (hb12_.mono (by first | omega | (simp; omega) | simp))
  clear hb12_
  have l19_ := G11_.lt
  have HL20_ : Hid ((List.replicate xs.length 0).length = xs.length) := List.length_replicate
  have o21_ := o14_.alloc (by first | omega | (simp; omega) | simp) (.cells #[.slice (some ⟨w5.heap.size, 0, none⟩) xs.length xs.length] 26)
  have o22_ := G11_.alloc (.cells #[.slice (some ⟨w5.heap.size, 0, none⟩) xs.length xs.length] 26)
  have o23_ := cell_alloc (o := (.cells #[.slice (some ⟨w5.heap.size, 0, none⟩) xs.length xs.length] 26)) o15_ (by first | omega | (simp; omega) | simp)
  have o24_ := cell_alloc (o := (.cells #[.slice (some ⟨w5.heap.size, 0, none⟩) xs.length xs.length] 26)) o16_ (by first | omega | (simp; omega) | simp)
  have B25_ := B18_.alloc (by first | omega | (simp; omega) | simp) (.cells #[.slice (some ⟨w5.heap.size, 0, none⟩) xs.length xs.length] 26)
  have a26_ : (w11.alloc (.cells #[.slice (some ⟨w5.heap.size, 0, none⟩) xs.length xs.length] 26)).cell? ⟨w11.heap.size, 0, none⟩ = some (.slice (some ⟨w5.heap.size, 0, none⟩) xs.length xs.length) := by simp [go_sem]
  have hmf : ∀ (fn : Fn) (first cap : Array Value) (w : World), (Instr.makeFunc fn first cap).run Try.prog w = .ok (.func fn first cap) w := fun _ _ _ _ => rfl
  go_wp2_with fail
  refine (walk_all E A c xs w.heap.size w11.heap.size w5.heap.size lo hi _ HCB.out (by first | omega | (simp; omega) | simp) (by first | omega | (simp; omega) | simp) (by first | omega | (simp; omega) | simp) o23_ o24_ a26_ o22_ o21_ (by first | omega | (simp; omega) | simp)).mono ?_
  rintro e w27 ⟨rfl, G29_, hC28_⟩
  clear hmf
  have o30_ := o21_.chg hC28_ (by first | omega | (simp; omega) | simp) (by omega)
  have o31_ := (hC28_.cell (p := ⟨w.heap.size, 0, none⟩) (by first | omega | (simp; omega) | simp) (by first | omega | (simp; omega) | simp)).trans o23_
  have o32_ := (hC28_.cell (p := ⟨w.heap.size, 1, none⟩) (by first | omega | (simp; omega) | simp) (by first | omega | (simp; omega) | simp)).trans o24_
  have o33_ := (hC28_.cell (p := ⟨w11.heap.size, 0, none⟩) (by first | omega | (simp; omega) | simp) (by first | omega | (simp; omega) | simp)).trans a26_
  have z34_ := hC28_.size
  try simp at z34_
  have B35_ := B25_.trans (hC28_.below (by omega) (by first | omega | (simp; omega) | simp))
  clear hC28_
  have HL36_ : Hid ((fnRow xs.length (addL E xs (fun _ => 0) (ords xs.length xs.length []))).length = xs.length) := fnRow_length _ _
  go_wp2
  go_loopw [19] (fun i wr => ∃ q : Nat, i = .int .i64 q ∧ (q ≤ xs.length) ∧ Grow wr w5.heap.size xs.length (fnRow xs.length (divTo E xs q)) ∧ Below w.heap.size w wr ∧ w27.heap.size ≤ wr.heap.size ∧ Ints wr (lo) (hi) A xs ∧ wr.cell? ⟨w.heap.size, 0, none⟩ = some (.int .i64 E) ∧ wr.cell? ⟨w.heap.size, 1, none⟩ = some (.slice A xs.length c) ∧ wr.cell? ⟨w11.heap.size, 0, none⟩ = some (.slice (some ⟨w5.heap.size, 0, none⟩) xs.length xs.length)) (fun i _ => xs.length - (intOf i).toNat)
  case atStart => exact ⟨0, rfl, Nat.zero_le _, (by rw [divTo_zero]; exact G29_), B35_, (by first | omega | (simp; omega) | simp), o30_, o31_, o32_, o33_⟩
  case round =>
    obtain ⟨q, rfl, hq, G38_, k39_, k40_, k41_, k42_, k43_, k44_⟩ := hrel
    obtain ⟨w37, rfl⟩ : ∃ x, x = wr := ⟨_, rfl⟩
    have HL45_ : Hid ((fnRow xs.length (divTo E xs q)).length = xs.length) := (fnRow_length _ _)
    have l46_ := G38_.lt
    by_cases hlt0 : q < xs.length
    · have c47_ : w37.cell? ⟨w5.heap.size, q, none⟩ = some (.int .i64 ((fnRow xs.length (divTo E xs q)).getD q 0)) := G38_.at_ q (by rw [fnRow_length]; omega)
      have c47_i : (q : Int) < (xs.length : Int) := by omega
      have c47_j : (0 : Int) ≤ (q : Int) := by omega
      have v48_g := divTo_rg HCB.out (q := q) (k := q) (by omega) (by omega)
      obtain ⟨v48_, hv48_⟩ : ∃ v, v = (fnRow xs.length (divTo E xs q)).getD q 0 := ⟨_, rfl⟩
      rw [← hv48_] at c47_ v48_g
      have Hv48_ := Lib.hid hv48_
      clear hv48_
      obtain ⟨v48_g1, v48_g2⟩ := v48_g
      obtain ⟨v49_, hv49_⟩ : ∃ v, fac xs.length = v := ⟨_, rfl⟩
      have bv49_ : 1 ≤ v49_ ∧ v49_ ≤ 24 := by rw [← hv49_]; exact fac_bd (by omega)
      obtain ⟨bv49_1, bv49_2⟩ := bv49_
      have Hv49_ := Lib.hid hv49_
      clear hv49_
      have hq50_a := Int.ediv_nonneg (show 0 ≤ v48_ by omega) (show 0 ≤ v49_ by omega)
      have hq50_b := Int.ediv_le_self v49_ (show 0 ≤ v48_ by omega)
      have hq50_ : IntKind.i64.wrap (v48_.tdiv v49_) = v48_ / v49_ := by rw [Int.tdiv_eq_ediv_of_nonneg (by omega)]; exact IntWalk.i64_in _ (by omega)
      have hq50_y : (v49_ == 0) = false := by simp only [beq_eq_false_iff_ne]; omega
      have hq50_z : (v49_ = 0) = False := eq_false (by omega)
      have c51_ := c47_
      have c51_f := G38_.soft q (by rw [fnRow_length]; omega)
      have c51_i : (q : Int) < (xs.length : Int) := by omega
      have c51_j : (0 : Int) ≤ (q : Int) := by omega
      have g52_ : w.heap.size < w37.heap.size := (by first | omega | (simp; omega) | simp)
      have g53_ : w11.heap.size < w37.heap.size := (by first | omega | (simp; omega) | simp)
      have g54_ : w5.heap.size < w37.heap.size := (by first | omega | (simp; omega) | simp)
      have d55_ : Ints (w37.drew) (lo) (hi) A xs := k41_
      have d56_ : Grow (w37.drew) w5.heap.size xs.length (fnRow xs.length (divTo E xs q)) := G38_
      have zd57_ : (w37.drew).heap.size = w37.heap.size := rfl
      go_wp2_with fail
      go_region_law (first | (go_simp; go_at_call 62; (with_reducible refine (same_is (countOrders_at (xs.length : Int) xs.length _ (by omega) rfl) (congrArg (Value.int .i64) Hv49_.out)).mono ?_); rintro e w9 ⟨rfl, rfl⟩))
      all_goals
        obtain ⟨w58, hw58⟩ : ∃ x, x = (w37.setCell ⟨w5.heap.size, q, none⟩ (.int .i64 (v48_ / v49_))).drew := ⟨_, rfl⟩
        rw [← hw58]
        have hC59_ : Chg w5.heap.size (w5.heap.size + 1) w37 w58 := by rw [hw58]; exact (Chg.setCell (lo := w5.heap.size) (hi := w5.heap.size + 1) w37 (p := ⟨w5.heap.size, q, none⟩) ⟨Nat.le_refl _, Nat.lt_succ_self _⟩ (.int .i64 (v48_ / v49_))).drewR
        have G60_ : Grow w58 w5.heap.size xs.length ((fnRow xs.length (divTo E xs q)).set q (v48_ / v49_)) := by rw [hw58]; exact (G38_.store q (v48_ / v49_)).drew
        clear hw58
        have o61_ := k41_.chg hC59_ (by first | omega | (simp; omega) | simp) (by omega)
        have o62_ := (hC59_.cell (p := ⟨w.heap.size, 0, none⟩) (by first | omega | (simp; omega) | simp) (by first | omega | (simp; omega) | simp)).trans k42_
        have o63_ := (hC59_.cell (p := ⟨w.heap.size, 1, none⟩) (by first | omega | (simp; omega) | simp) (by first | omega | (simp; omega) | simp)).trans k43_
        have o64_ := (hC59_.cell (p := ⟨w11.heap.size, 0, none⟩) (by first | omega | (simp; omega) | simp) (by first | omega | (simp; omega) | simp)).trans k44_
        have z65_ := hC59_.size
        have B66_ := k39_.trans (hC59_.below (by omega) (by first | omega | (simp; omega) | simp))
        clear hC59_
        have HL67_ : Hid (((fnRow xs.length (divTo E xs q)).set q (v48_ / v49_)).length = xs.length) := by show _ = _; rw [List.length_set]; first | rfl | omega | exact HL45_.out
        go_wp2
        go_roundw
        case rel => exact ⟨q + 1, by go_num, by omega, (by rw [← divTo_step (v := v48_) (F := v49_) HCB.out (by omega) Hv48_.out Hv49_.out]; exact G60_), B66_, (by first | omega | (simp; omega) | simp), o61_, o62_, o63_, o64_⟩
        case measure => simp [intOf] <;> omega
    · obtain rfl : q = xs.length := by omega
      have hfin : arrRow E xs = fnRow xs.length (divTo E xs xs.length) := by rw [arrRow, if_pos HCB.out, divTo_all]
      go_wp2
      go_ret
      rw [hfin]
      (refine retInts_grow G38_ (by omega) ?_ k39_; rw [fnRow_length])

set_option maxRecDepth 10000 in
set_option maxHeartbeats 1000000 in
theorem implArrivalAwards_no (E : Int) (A : Option Addr) (c : Nat) (xs : List Int) (w : World) (lo hi : Nat) (h : Ints w lo hi A xs) (hh : hi ≤ w.heap.size) (hl : xs.length ≤ 1152921504606846976) (hok : caseOkB E xs = false) :
    Calls Try.prog 38 #[.agg #[.int .i64 E, .slice A xs.length c]] w (RetInts w (arrRow E xs)) := by
  have HCB := Lib.hid hok
  clear hok
  go_enter Try.func38, Try.ntmps38
  have o1_ := h.alloc (by first | omega | (simp; omega) | simp) (.cells #[.int .i64 E, .slice A xs.length c] 28)
  have B2_ := (Below.refl w.heap.size w).alloc (Nat.le_refl _) (.cells #[.int .i64 E, .slice A xs.length c] 28)
  have a3_ : (w.alloc (.cells #[.int .i64 E, .slice A xs.length c] 28)).cell? ⟨w.heap.size, 0, none⟩ = some (.int .i64 E) := by simp [go_sem]
  have a4_ : (w.alloc (.cells #[.int .i64 E, .slice A xs.length c] 28)).cell? ⟨w.heap.size, 1, none⟩ = some (.slice A xs.length c) := by simp [go_sem]
  go_wp2_with fail
  refine (implCaseOk_any E A c xs _ _ _ o1_ (by first | omega | (simp; omega) | simp) hl).mono ?_
  rintro e w5 ⟨he, hb5_⟩
  rw [HCB.out] at he
  subst he
  have o6_ := o1_.below hb5_ (by first | omega | (simp; omega) | simp)
  have o7_ := (hb5_.cell (p := ⟨w.heap.size, 0, none⟩) (by first | omega | (simp; omega) | simp)).trans a3_
  have o8_ := (hb5_.cell (p := ⟨w.heap.size, 1, none⟩) (by first | omega | (simp; omega) | simp)).trans a4_
  have z9_ := hb5_.size
  try simp at z9_
  have B10_ := B2_.trans (hb5_.mono (by first | omega | (simp; omega) | simp))
  clear hb5_
  go_wp2
  go_ret
  exact retInts_nil (by rw [arrRow, if_neg (by rw [HCB.out]; simp)]) B10_

theorem implArrivalAwards_any (E : Int) (A : Option Addr) (c : Nat) (xs : List Int) (w : World) (lo hi : Nat) (h : Ints w lo hi A xs) (hh : hi ≤ w.heap.size) (hl : xs.length ≤ 1152921504606846976) :
    Calls Try.prog 38 #[.agg #[.int .i64 E, .slice A xs.length c]] w (RetInts w (arrRow E xs)) := by
  by_cases hok : caseOkB E xs = true
  · exact implArrivalAwards_yes E A c xs w lo hi h hh hl hok
  · exact implArrivalAwards_no E A c xs w lo hi h hh hl (by simpa using hok)


end Go.Proofs.Ytkkdolbbioeknaa
