/-
  Chapter 8, the awards by a rule (spec). No condition but lengths that fit.
-/
import Derived.Test.YtkkdolbbioeknaaSpec8
import Derived.Test.YtkkdolbbioeknaaSpec7C
import Derived.Test.YtkkdolbbioeknaaGB
import Derived.Test.YtkkdolbbioeknaaSpecHalf
import Derived.Test.YtkkdolbbioeknaaGE
import Derived.BigQuiet
import Derived.Deep.Cut
namespace Go.Proofs.Ytkkdolbbioeknaa
open Go.RowKit


/-- What RuleAwards returns. -/
def ruleRow (E : Int) (xs : List Int) (l : List UInt8) : List Int := if caseOkB E xs = true ∧ ruleB l = true then ruleAw l.reverse E xs else []
theorem last_size (p : List UInt8) (x : UInt8) : (p ++ [x]).length = p.length + 1 := by simp
theorem loss_row {xs Y : List Int} (h : Y.length = xs.length) : fnRow Y.length (fun i => 48 * xs.getD i 0 - Y.getD i 0) = lossesRow xs Y := by
  refine row_ext (by rw [fnRow_length, lossesRow_length h]) fun k hk => ?_
  rw [fnRow_length] at hk
  rw [fnRow_getD _ hk, loss_getD h k (by omega)]
theorem plus_row (R Y : List Int) : fnRow Y.length (fun i => Y.getD i 0 + 48 * R.getD i 0) = plusR R Y := rfl
theorem rule_rg {r : List UInt8} (h : okR r = true) {E : Int} {xs : List Int} (hc : caseOkB E xs = true) (k : Nat) : 0 ≤ (ruleAw r E xs).getD k 0 ∧ (ruleAw r E xs).getD k 0 ≤ 2304 := by
  have e := rule_aw h hc
  by_cases hk : k < xs.length
  · have q := aw_get e k hk
    have q2 := case_rg hc k
    omega
  · rw [getD_far _ (by rw [e.2.1]; omega)]; omega
theorem rights_rg' {E : Int} {xs : List Int} (h : caseOkB E xs = true) (k : Nat) : 0 ≤ (rightsRow E xs).getD k 0 ∧ (rightsRow E xs).getD k 0 ≤ 48 := rights_rg h k

theorem specArr_in (E : Int) (A : Option Addr) (c : Nat) (xs : List Int) (w : World) (lo hi : Nat) (h : Ints w lo hi A xs) (hh : hi ≤ w.heap.size) (hok : caseOkB E xs = true) :
    Calls Try.prog 69 #[.agg #[.int .i64 E, .slice A xs.length c]] w (RetInts w (arr E xs)) := by
  have e := specArrivalAwards_any E A c xs w lo hi h hh (by have e := caseOk_bd hok; omega)
  rwa [arrRow_yes hok] at e

set_option maxRecDepth 10000 in
set_option maxHeartbeats 2000000 in
theorem spec_l8Awards_e (E : Int) (A : Option Addr) (c : Nat) (xs : List Int) (p : List UInt8) (w : World) (lo hi : Nat) (h : Ints w lo hi A xs) (hh : hi ≤ w.heap.size) (hp : p.length ≤ 7) (hok : caseOkB E xs = true) :
    Calls Try.prog 43 #[.agg #[.int .i64 E, .slice A xs.length c], .string (S (p ++ [101]))] w (RetInts w (ruleAw (p ++ [101]).reverse E xs)) := by
  have hS1 := S_size
  have hS2 : ∀ (l : List UInt8) (k : Nat) (h : k < (S l).size), (S l)[k]'h = l[k]'(by rw [S_size] at h; exact h) := fun _ _ h => S_at2 h
  have HCB := Lib.hid hok
  have hbd := caseOk_bd hok
  have hpl : (p ++ [101]).length = p.length + 1 := last_size p 101
  have hpl1 : (p.length : Int) < ((p ++ [101]).length : Int) := by omega
  clear hpl
  clear hok
  go_enter Try.func43, Try.ntmps43
  have o1_ := h.alloc (by first | omega | (simp; omega) | simp) (.cells #[.int .i64 E, .slice A xs.length c] 28)
  have B2_ := (Below.refl w.heap.size w).alloc (Nat.le_refl _) (.cells #[.int .i64 E, .slice A xs.length c] 28)
  have a3_ : (w.alloc (.cells #[.int .i64 E, .slice A xs.length c] 28)).cell? ⟨w.heap.size, 0, none⟩ = some (.int .i64 E) := by simp [go_sem]
  have a4_ : (w.alloc (.cells #[.int .i64 E, .slice A xs.length c] 28)).cell? ⟨w.heap.size, 1, none⟩ = some (.slice A xs.length c) := by simp [go_sem]
  have o5_ := o1_.alloc (by first | omega | (simp; omega) | simp) (.cells #[] 3)
  have o6_ := cell_alloc (o := (.cells #[] 3)) a3_ (by first | omega | (simp; omega) | simp)
  have o7_ := cell_alloc (o := (.cells #[] 3)) a4_ (by first | omega | (simp; omega) | simp)
  have B8_ := B2_.alloc (by first | omega | (simp; omega) | simp) (.cells #[] 3)
  have G9_ : Grow ((w.alloc (.cells #[.int .i64 E, .slice A xs.length c] 28)).alloc (.cells #[] 3)) (w.heap.size + 1) 0 ([] : List Int) := by have e := grow_lit (w.alloc (.cells #[.int .i64 E, .slice A xs.length c] 28)) ([] : List Int) (by simp); (try simp only [hsz] at e); exact e
  have l10_ := G9_.lt
  have HL11_ : Hid (([] : List Int).length = 0) := rfl
  have v12_i : (p.length : Int) < ((p ++ [101]).length : Int) := by omega
  have v12_j : (0 : Int) ≤ (p.length : Int) := by omega
  have v12_k : p.length < (p ++ [101]).length := by omega
  have hv12_ : ((((p ++ [101])[p.length]'v12_k).toNat : Nat) : Int) = 101 := by rw [List.getElem_concat_length rfl]; rfl
  go_wp2_with fail
  refine (specEvenAwards_yes E A c xs _ _ _ o5_ (by first | omega | (simp; omega) | simp) HCB.out).mono ?_
  rintro e w13 ⟨A14_, c15_, rfl, ho16_, hb13_⟩
  have ho16_ : Own w13 (w.heap.size + 2) w13.heap.size A14_ (evenAw E xs) := ho16_.more (by simp) (Nat.le_refl _)
  have o17_ := o5_.below hb13_ (by first | omega | (simp; omega) | simp)
  have o18_ := G9_.below hb13_ (by first | omega | (simp; omega) | simp)
  have o19_ := (hb13_.cell (p := ⟨w.heap.size, 0, none⟩) (by first | omega | (simp; omega) | simp)).trans o6_
  have o20_ := (hb13_.cell (p := ⟨w.heap.size, 1, none⟩) (by first | omega | (simp; omega) | simp)).trans o7_
  have z21_ := hb13_.size
  try simp at z21_
  have B22_ := B8_.trans (hb13_.mono (by first | omega | (simp; omega) | simp))
  clear hb13_
  have hrev : (p ++ [101]).reverse = 101 :: p.reverse := by simp
  have hfin : ruleAw (p ++ [101]).reverse E xs = evenAw E xs := by rw [hrev]; rfl
  have HFIN := Lib.hid hfin
  clear hfin hrev
  go_wp2
  go_ret
  rw [HFIN.out]
  exact ⟨A14_, c15_, rfl, ho16_.more (by omega) (Nat.le_refl _), B22_⟩

set_option maxRecDepth 10000 in
set_option maxHeartbeats 2000000 in
theorem spec_l8Awards_l (E : Int) (A : Option Addr) (c : Nat) (xs : List Int) (p : List UInt8) (w : World) (lo hi : Nat) (h : Ints w lo hi A xs) (hh : hi ≤ w.heap.size) (hp : p.length ≤ 7) (hok : caseOkB E xs = true) :
    Calls Try.prog 43 #[.agg #[.int .i64 E, .slice A xs.length c], .string (S (p ++ [108]))] w (RetInts w (ruleAw (p ++ [108]).reverse E xs)) := by
  have hS1 := S_size
  have hS2 : ∀ (l : List UInt8) (k : Nat) (h : k < (S l).size), (S l)[k]'h = l[k]'(by rw [S_size] at h; exact h) := fun _ _ h => S_at2 h
  have HCB := Lib.hid hok
  have hbd := caseOk_bd hok
  have hpl : (p ++ [108]).length = p.length + 1 := last_size p 108
  have hpl1 : (p.length : Int) < ((p ++ [108]).length : Int) := by omega
  clear hpl
  clear hok
  go_enter Try.func43, Try.ntmps43
  have o1_ := h.alloc (by first | omega | (simp; omega) | simp) (.cells #[.int .i64 E, .slice A xs.length c] 28)
  have B2_ := (Below.refl w.heap.size w).alloc (Nat.le_refl _) (.cells #[.int .i64 E, .slice A xs.length c] 28)
  have a3_ : (w.alloc (.cells #[.int .i64 E, .slice A xs.length c] 28)).cell? ⟨w.heap.size, 0, none⟩ = some (.int .i64 E) := by simp [go_sem]
  have a4_ : (w.alloc (.cells #[.int .i64 E, .slice A xs.length c] 28)).cell? ⟨w.heap.size, 1, none⟩ = some (.slice A xs.length c) := by simp [go_sem]
  have o5_ := o1_.alloc (by first | omega | (simp; omega) | simp) (.cells #[] 3)
  have o6_ := cell_alloc (o := (.cells #[] 3)) a3_ (by first | omega | (simp; omega) | simp)
  have o7_ := cell_alloc (o := (.cells #[] 3)) a4_ (by first | omega | (simp; omega) | simp)
  have B8_ := B2_.alloc (by first | omega | (simp; omega) | simp) (.cells #[] 3)
  have G9_ : Grow ((w.alloc (.cells #[.int .i64 E, .slice A xs.length c] 28)).alloc (.cells #[] 3)) (w.heap.size + 1) 0 ([] : List Int) := by have e := grow_lit (w.alloc (.cells #[.int .i64 E, .slice A xs.length c] 28)) ([] : List Int) (by simp); (try simp only [hsz] at e); exact e
  have l10_ := G9_.lt
  have HL11_ : Hid (([] : List Int).length = 0) := rfl
  have v12_i : (p.length : Int) < ((p ++ [108]).length : Int) := by omega
  have v12_j : (0 : Int) ≤ (p.length : Int) := by omega
  have v12_k : p.length < (p ++ [108]).length := by omega
  have hv12_ : ((((p ++ [108])[p.length]'v12_k).toNat : Nat) : Int) = 108 := by rw [List.getElem_concat_length rfl]; rfl
  go_wp2_with fail
  refine (specEvenLosses_yes E A c xs _ _ _ o5_ (by first | omega | (simp; omega) | simp) HCB.out).mono ?_
  rintro e w13 ⟨A14_, c15_, rfl, ho16_, hb13_⟩
  have ho16_ : Own w13 (w.heap.size + 2) w13.heap.size A14_ (evenLo E xs) := ho16_.more (by simp) (Nat.le_refl _)
  have o17_ := o5_.below hb13_ (by first | omega | (simp; omega) | simp)
  have o18_ := G9_.below hb13_ (by first | omega | (simp; omega) | simp)
  have o19_ := (hb13_.cell (p := ⟨w.heap.size, 0, none⟩) (by first | omega | (simp; omega) | simp)).trans o6_
  have o20_ := (hb13_.cell (p := ⟨w.heap.size, 1, none⟩) (by first | omega | (simp; omega) | simp)).trans o7_
  have z21_ := hb13_.size
  try simp at z21_
  have B22_ := B8_.trans (hb13_.mono (by first | omega | (simp; omega) | simp))
  clear hb13_
  have hrev : (p ++ [108]).reverse = 108 :: p.reverse := by simp
  have hfin : ruleAw (p ++ [108]).reverse E xs = evenLo E xs := by rw [hrev]; rfl
  have HFIN := Lib.hid hfin
  clear hfin hrev
  go_wp2
  go_ret
  rw [HFIN.out]
  exact ⟨A14_, c15_, rfl, ho16_.more (by omega) (Nat.le_refl _), B22_⟩

set_option maxRecDepth 10000 in
set_option maxHeartbeats 2000000 in
theorem spec_l8Awards_h (E : Int) (A : Option Addr) (c : Nat) (xs : List Int) (p : List UInt8) (w : World) (lo hi : Nat) (h : Ints w lo hi A xs) (hh : hi ≤ w.heap.size) (hp : p.length ≤ 7) (hok : caseOkB E xs = true) :
    Calls Try.prog 43 #[.agg #[.int .i64 E, .slice A xs.length c], .string (S (p ++ [104]))] w (RetInts w (ruleAw (p ++ [104]).reverse E xs)) := by
  have hS1 := S_size
  have hS2 : ∀ (l : List UInt8) (k : Nat) (h : k < (S l).size), (S l)[k]'h = l[k]'(by rw [S_size] at h; exact h) := fun _ _ h => S_at2 h
  have HCB := Lib.hid hok
  have hbd := caseOk_bd hok
  have hpl : (p ++ [104]).length = p.length + 1 := last_size p 104
  have hpl1 : (p.length : Int) < ((p ++ [104]).length : Int) := by omega
  clear hpl
  clear hok
  go_enter Try.func43, Try.ntmps43
  have o1_ := h.alloc (by first | omega | (simp; omega) | simp) (.cells #[.int .i64 E, .slice A xs.length c] 28)
  have B2_ := (Below.refl w.heap.size w).alloc (Nat.le_refl _) (.cells #[.int .i64 E, .slice A xs.length c] 28)
  have a3_ : (w.alloc (.cells #[.int .i64 E, .slice A xs.length c] 28)).cell? ⟨w.heap.size, 0, none⟩ = some (.int .i64 E) := by simp [go_sem]
  have a4_ : (w.alloc (.cells #[.int .i64 E, .slice A xs.length c] 28)).cell? ⟨w.heap.size, 1, none⟩ = some (.slice A xs.length c) := by simp [go_sem]
  have o5_ := o1_.alloc (by first | omega | (simp; omega) | simp) (.cells #[] 3)
  have o6_ := cell_alloc (o := (.cells #[] 3)) a3_ (by first | omega | (simp; omega) | simp)
  have o7_ := cell_alloc (o := (.cells #[] 3)) a4_ (by first | omega | (simp; omega) | simp)
  have B8_ := B2_.alloc (by first | omega | (simp; omega) | simp) (.cells #[] 3)
  have G9_ : Grow ((w.alloc (.cells #[.int .i64 E, .slice A xs.length c] 28)).alloc (.cells #[] 3)) (w.heap.size + 1) 0 ([] : List Int) := by have e := grow_lit (w.alloc (.cells #[.int .i64 E, .slice A xs.length c] 28)) ([] : List Int) (by simp); (try simp only [hsz] at e); exact e
  have l10_ := G9_.lt
  have HL11_ : Hid (([] : List Int).length = 0) := rfl
  have v12_i : (p.length : Int) < ((p ++ [104]).length : Int) := by omega
  have v12_j : (0 : Int) ≤ (p.length : Int) := by omega
  have v12_k : p.length < (p ++ [104]).length := by omega
  have hv12_ : ((((p ++ [104])[p.length]'v12_k).toNat : Nat) : Int) = 104 := by rw [List.getElem_concat_length rfl]; rfl
  go_wp2_with fail
  refine (specHalfAwards_yes E A c xs _ _ _ o5_ (by first | omega | (simp; omega) | simp) HCB.out).mono ?_
  rintro e w13 ⟨A14_, c15_, rfl, ho16_, hb13_⟩
  have ho16_ : Own w13 (w.heap.size + 2) w13.heap.size A14_ (halfAw E xs) := ho16_.more (by simp) (Nat.le_refl _)
  have o17_ := o5_.below hb13_ (by first | omega | (simp; omega) | simp)
  have o18_ := G9_.below hb13_ (by first | omega | (simp; omega) | simp)
  have o19_ := (hb13_.cell (p := ⟨w.heap.size, 0, none⟩) (by first | omega | (simp; omega) | simp)).trans o6_
  have o20_ := (hb13_.cell (p := ⟨w.heap.size, 1, none⟩) (by first | omega | (simp; omega) | simp)).trans o7_
  have z21_ := hb13_.size
  try simp at z21_
  have B22_ := B8_.trans (hb13_.mono (by first | omega | (simp; omega) | simp))
  clear hb13_
  have hrev : (p ++ [104]).reverse = 104 :: p.reverse := by simp
  have hfin : ruleAw (p ++ [104]).reverse E xs = halfAw E xs := by rw [hrev]; rfl
  have HFIN := Lib.hid hfin
  clear hfin hrev
  go_wp2
  go_ret
  rw [HFIN.out]
  exact ⟨A14_, c15_, rfl, ho16_.more (by omega) (Nat.le_refl _), B22_⟩

set_option maxRecDepth 10000 in
set_option maxHeartbeats 2000000 in
theorem spec_l8Awards_a (E : Int) (A : Option Addr) (c : Nat) (xs : List Int) (p : List UInt8) (w : World) (lo hi : Nat) (h : Ints w lo hi A xs) (hh : hi ≤ w.heap.size) (hp : p.length ≤ 7) (hok : caseOkB E xs = true) :
    Calls Try.prog 43 #[.agg #[.int .i64 E, .slice A xs.length c], .string (S (p ++ [97]))] w (RetInts w (ruleAw (p ++ [97]).reverse E xs)) := by
  have hS1 := S_size
  have hS2 : ∀ (l : List UInt8) (k : Nat) (h : k < (S l).size), (S l)[k]'h = l[k]'(by rw [S_size] at h; exact h) := fun _ _ h => S_at2 h
  have HCB := Lib.hid hok
  have hbd := caseOk_bd hok
  have hpl : (p ++ [97]).length = p.length + 1 := last_size p 97
  have hpl1 : (p.length : Int) < ((p ++ [97]).length : Int) := by omega
  clear hpl
  clear hok
  go_enter Try.func43, Try.ntmps43
  have o1_ := h.alloc (by first | omega | (simp; omega) | simp) (.cells #[.int .i64 E, .slice A xs.length c] 28)
  have B2_ := (Below.refl w.heap.size w).alloc (Nat.le_refl _) (.cells #[.int .i64 E, .slice A xs.length c] 28)
  have a3_ : (w.alloc (.cells #[.int .i64 E, .slice A xs.length c] 28)).cell? ⟨w.heap.size, 0, none⟩ = some (.int .i64 E) := by simp [go_sem]
  have a4_ : (w.alloc (.cells #[.int .i64 E, .slice A xs.length c] 28)).cell? ⟨w.heap.size, 1, none⟩ = some (.slice A xs.length c) := by simp [go_sem]
  have o5_ := o1_.alloc (by first | omega | (simp; omega) | simp) (.cells #[] 3)
  have o6_ := cell_alloc (o := (.cells #[] 3)) a3_ (by first | omega | (simp; omega) | simp)
  have o7_ := cell_alloc (o := (.cells #[] 3)) a4_ (by first | omega | (simp; omega) | simp)
  have B8_ := B2_.alloc (by first | omega | (simp; omega) | simp) (.cells #[] 3)
  have G9_ : Grow ((w.alloc (.cells #[.int .i64 E, .slice A xs.length c] 28)).alloc (.cells #[] 3)) (w.heap.size + 1) 0 ([] : List Int) := by have e := grow_lit (w.alloc (.cells #[.int .i64 E, .slice A xs.length c] 28)) ([] : List Int) (by simp); (try simp only [hsz] at e); exact e
  have l10_ := G9_.lt
  have HL11_ : Hid (([] : List Int).length = 0) := rfl
  have v12_i : (p.length : Int) < ((p ++ [97]).length : Int) := by omega
  have v12_j : (0 : Int) ≤ (p.length : Int) := by omega
  have v12_k : p.length < (p ++ [97]).length := by omega
  have hv12_ : ((((p ++ [97])[p.length]'v12_k).toNat : Nat) : Int) = 97 := by rw [List.getElem_concat_length rfl]; rfl
  go_wp2_with fail
  refine (specArr_in E A c xs _ _ _ o5_ (by first | omega | (simp; omega) | simp) HCB.out).mono ?_
  rintro e w13 ⟨A14_, c15_, rfl, ho16_, hb13_⟩
  have ho16_ : Own w13 (w.heap.size + 2) w13.heap.size A14_ (arr E xs) := ho16_.more (by simp) (Nat.le_refl _)
  have o17_ := o5_.below hb13_ (by first | omega | (simp; omega) | simp)
  have o18_ := G9_.below hb13_ (by first | omega | (simp; omega) | simp)
  have o19_ := (hb13_.cell (p := ⟨w.heap.size, 0, none⟩) (by first | omega | (simp; omega) | simp)).trans o6_
  have o20_ := (hb13_.cell (p := ⟨w.heap.size, 1, none⟩) (by first | omega | (simp; omega) | simp)).trans o7_
  have z21_ := hb13_.size
  try simp at z21_
  have B22_ := B8_.trans (hb13_.mono (by first | omega | (simp; omega) | simp))
  clear hb13_
  have hrev : (p ++ [97]).reverse = 97 :: p.reverse := by simp
  have hfin : ruleAw (p ++ [97]).reverse E xs = arr E xs := by rw [hrev]; rfl
  have HFIN := Lib.hid hfin
  clear hfin hrev
  go_wp2
  go_ret
  rw [HFIN.out]
  exact ⟨A14_, c15_, rfl, ho16_.more (by omega) (Nat.le_refl _), B22_⟩

set_option maxRecDepth 10000 in
set_option maxHeartbeats 2000000 in
theorem spec_l8Awards_d (E : Int) (A : Option Addr) (c : Nat) (xs : List Int) (p : List UInt8) (w : World) (lo hi : Nat) (h : Ints w lo hi A xs) (hh : hi ≤ w.heap.size) (hp : p.length ≤ 7) (hok : caseOkB E xs = true) (hokr : okR p.reverse = true) (ih : ∀ (E : Int) (A : Option Addr) (c : Nat) (xs : List Int) (w : World) (lo hi : Nat), Ints w lo hi A xs → hi ≤ w.heap.size → caseOkB E xs = true → Calls Try.prog 43 #[.agg #[.int .i64 E, .slice A xs.length c], .string (S p)] w (RetInts w (ruleAw p.reverse E xs))) :
    Calls Try.prog 43 #[.agg #[.int .i64 E, .slice A xs.length c], .string (S (p ++ [100]))] w (RetInts w (ruleAw (p ++ [100]).reverse E xs)) := by
  have hS1 := S_size
  have hS2 : ∀ (l : List UInt8) (k : Nat) (h : k < (S l).size), (S l)[k]'h = l[k]'(by rw [S_size] at h; exact h) := fun _ _ h => S_at2 h
  have HCB := Lib.hid hok
  have hbd := caseOk_bd hok
  have hpl : (p ++ [100]).length = p.length + 1 := last_size p 100
  have hpl1 : (p.length : Int) < ((p ++ [100]).length : Int) := by omega
  clear hpl
  have hok2 := other_ok hok
  obtain ⟨Y, hY⟩ : ∃ Y, ruleAw p.reverse (xs.sum - E) xs = Y := ⟨_, rfl⟩
  have HYR : Hid (∀ k, 0 ≤ Y.getD k 0 ∧ Y.getD k 0 ≤ 2304) := fun k => by rw [← hY]; exact rule_rg hokr hok2 k
  have HYL : Hid (Y.length = xs.length) := by show _ = _; rw [← hY, rule_len hokr hok2]
  have hyl1 : Y.length ≤ xs.length := by have e := HYL.out; omega
  have hyl2 : xs.length ≤ Y.length := by have e := HYL.out; omega
  have HXL : Hid (xs.length = xs.length) := rfl
  have rec_ : ∀ (A : Option Addr) (c : Nat) (w : World) (lo hi : Nat), Ints w lo hi A xs → hi ≤ w.heap.size → Calls Try.prog 43 #[.agg #[.int .i64 (xs.sum - E), .slice A xs.length c], .string (S p)] w (RetInts w Y) := fun A c w lo hi h1 h2 => by rw [← hY]; exact ih _ A c _ w lo hi h1 h2 hok2
  have HYD := Lib.hid hY
  clear hY hok2 ih
  clear hok
  go_enter Try.func43, Try.ntmps43
  have o1_ := h.alloc (by first | omega | (simp; omega) | simp) (.cells #[.int .i64 E, .slice A xs.length c] 28)
  have B2_ := (Below.refl w.heap.size w).alloc (Nat.le_refl _) (.cells #[.int .i64 E, .slice A xs.length c] 28)
  have a3_ : (w.alloc (.cells #[.int .i64 E, .slice A xs.length c] 28)).cell? ⟨w.heap.size, 0, none⟩ = some (.int .i64 E) := by simp [go_sem]
  have a4_ : (w.alloc (.cells #[.int .i64 E, .slice A xs.length c] 28)).cell? ⟨w.heap.size, 1, none⟩ = some (.slice A xs.length c) := by simp [go_sem]
  have o5_ := o1_.alloc (by first | omega | (simp; omega) | simp) (.cells #[] 3)
  have o6_ := cell_alloc (o := (.cells #[] 3)) a3_ (by first | omega | (simp; omega) | simp)
  have o7_ := cell_alloc (o := (.cells #[] 3)) a4_ (by first | omega | (simp; omega) | simp)
  have B8_ := B2_.alloc (by first | omega | (simp; omega) | simp) (.cells #[] 3)
  have G9_ : Grow ((w.alloc (.cells #[.int .i64 E, .slice A xs.length c] 28)).alloc (.cells #[] 3)) (w.heap.size + 1) 0 ([] : List Int) := by have e := grow_lit (w.alloc (.cells #[.int .i64 E, .slice A xs.length c] 28)) ([] : List Int) (by simp); (try simp only [hsz] at e); exact e
  have l10_ := G9_.lt
  have HL11_ : Hid (([] : List Int).length = 0) := rfl
  have v12_i : (p.length : Int) < ((p ++ [100]).length : Int) := by omega
  have v12_j : (0 : Int) ≤ (p.length : Int) := by omega
  have v12_k : p.length < (p ++ [100]).length := by omega
  have hv12_ : ((((p ++ [100])[p.length]'v12_k).toNat : Nat) : Int) = 100 := by rw [List.getElem_concat_length rfl]; rfl
  go_wp2_with fail
  refine (specOtherCase_yes E A c xs _ _ _ o5_ (by first | omega | (simp; omega) | simp) HCB.out).mono ?_
  rintro e w13 ⟨A14_, c15_, rfl, ho16_, hb13_⟩
  have ho16_ : Own w13 (w.heap.size + 2) w13.heap.size A14_ xs := ho16_.more (by simp) (Nat.le_refl _)
  have o17_ := o5_.below hb13_ (by first | omega | (simp; omega) | simp)
  have o18_ := G9_.below hb13_ (by first | omega | (simp; omega) | simp)
  have o19_ := (hb13_.cell (p := ⟨w.heap.size, 0, none⟩) (by first | omega | (simp; omega) | simp)).trans o6_
  have o20_ := (hb13_.cell (p := ⟨w.heap.size, 1, none⟩) (by first | omega | (simp; omega) | simp)).trans o7_
  have z21_ := hb13_.size
  try simp at z21_
  have B22_ := B8_.trans (hb13_.mono (by first | omega | (simp; omega) | simp))
  clear hb13_
  have o23_ := o17_.alloc (by first | omega | (simp; omega) | simp) (.cells #[.int .i64 (xs.sum - E), .slice A14_ xs.length c15_] 28)
  have o24_ := o18_.alloc (.cells #[.int .i64 (xs.sum - E), .slice A14_ xs.length c15_] 28)
  have o25_ := ho16_.alloc (by first | omega | (simp; omega) | simp) (.cells #[.int .i64 (xs.sum - E), .slice A14_ xs.length c15_] 28)
  have o26_ := cell_alloc (o := (.cells #[.int .i64 (xs.sum - E), .slice A14_ xs.length c15_] 28)) o19_ (by first | omega | (simp; omega) | simp)
  have o27_ := cell_alloc (o := (.cells #[.int .i64 (xs.sum - E), .slice A14_ xs.length c15_] 28)) o20_ (by first | omega | (simp; omega) | simp)
  have B28_ := B22_.alloc (by first | omega | (simp; omega) | simp) (.cells #[.int .i64 (xs.sum - E), .slice A14_ xs.length c15_] 28)
  have a29_ : (w13.alloc (.cells #[.int .i64 (xs.sum - E), .slice A14_ xs.length c15_] 28)).cell? ⟨w13.heap.size, 0, none⟩ = some (.int .i64 (xs.sum - E)) := by simp [go_sem]
  have a30_ : (w13.alloc (.cells #[.int .i64 (xs.sum - E), .slice A14_ xs.length c15_] 28)).cell? ⟨w13.heap.size, 1, none⟩ = some (.slice A14_ xs.length c15_) := by simp [go_sem]
  have hx31_m : (p.length : Int) ≤ ((p.length : Int) + 1) := by omega
  have hx31_l : (p.length : Int) ≤ ((p ++ [100]).length : Int) := by omega
  have hx31_g : (0 : Int) ≤ (p.length : Int) := by omega
  have hx31_ : (S (p ++ [100])).extract 0 p.length = S p := by rw [S_front, List.take_left]
  have g42_ : w.heap.size < (w13.alloc (.cells #[.int .i64 (xs.sum - E), .slice A14_ xs.length c15_] 28)).heap.size := (by first | omega | (simp; omega) | simp)
  have g43_ : w13.heap.size < (w13.alloc (.cells #[.int .i64 (xs.sum - E), .slice A14_ xs.length c15_] 28)).heap.size := (by first | omega | (simp; omega) | simp)
  have g44_ : hi ≤ (w13.alloc (.cells #[.int .i64 (xs.sum - E), .slice A14_ xs.length c15_] 28)).heap.size := (by first | omega | (simp; omega) | simp)
  have g45_ : (w.heap.size + 1) + 1 ≤ (w13.alloc (.cells #[.int .i64 (xs.sum - E), .slice A14_ xs.length c15_] 28)).heap.size := (by first | omega | (simp; omega) | simp)
  have g46_ : w13.heap.size ≤ (w13.alloc (.cells #[.int .i64 (xs.sum - E), .slice A14_ xs.length c15_] 28)).heap.size := (by first | omega | (simp; omega) | simp)
  have g47_ : w.heap.size ≤ (w13.alloc (.cells #[.int .i64 (xs.sum - E), .slice A14_ xs.length c15_] 28)).heap.size := (by first | omega | (simp; omega) | simp)
  go_wp2_with fail
  refine wp_region_held_drew (S := (fun w' : World => Below w.heap.size w w' ∧ w13.heap.size + 1 ≤ w'.heap.size ∧ Ints w' (lo) (hi) A xs ∧ Grow w' (w.heap.size + 1) 0 ([] : List Int) ∧ Own w' (w.heap.size + 2) (w13.heap.size) A14_ xs ∧ w'.cell? ⟨w.heap.size, 0, none⟩ = some (.int .i64 E) ∧ w'.cell? ⟨w.heap.size, 1, none⟩ = some (.slice A xs.length c) ∧ w'.cell? ⟨w13.heap.size, 0, none⟩ = some (.int .i64 (xs.sum - E)) ∧ w'.cell? ⟨w13.heap.size, 1, none⟩ = some (.slice A14_ xs.length c15_) ∧ (w13.alloc (.cells #[.int .i64 (xs.sum - E), .slice A14_ xs.length c15_] 28)).heap.size ≤ w'.heap.size)) (by kernel_rfl) ⟨B28_.drew, by exact (by first | omega | (simp; omega) | simp), o23_, o24_, o25_, o26_, o27_, a29_, a30_, Nat.le_refl _⟩ (fun hHeld => ?_)
  refine wpAnyH_take (i := 0) (oi := ?oi1) (v := ?vv1) ?hi1 ?hs1 ?hf1 ?ha1 ?hq1 ?hy1 hHeld ?hr1
  case hi1 => (simp only [List.getElem?_toArray, List.getElem?_cons_zero]; exact rfl)
  case hs1 => kernel_rfl
  case hf1 => kernel_rfl
  case ha1 => kernel_rfl
  case hq1 => exact fun _ _ _ h => h
  case hy1 =>
    refine Or.inl ⟨by rfl, ?_⟩
    intro w' hSw
    try dsimp only at hSw
    go_simp
    first | done | with_reducible rfl
  simp only [Act.put, List.setIfInBounds_toArray, List.set_cons_succ, List.set_cons_zero]
  refine wpAnyH_take (i := 1) (oi := ?oi2) (v := ?vv2) ?hi2 ?hs2 ?hf2 ?ha2 ?hq2 ?hy2 hHeld ?hr2
  case hi2 => (simp only [List.getElem?_toArray, List.getElem?_cons_succ, List.getElem?_cons_zero]; exact rfl)
  case hs2 => kernel_rfl
  case hf2 => kernel_rfl
  case ha2 => kernel_rfl
  case hq2 => exact fun _ _ _ h => h
  case hy2 =>
    refine Or.inl ⟨by rfl, ?_⟩
    intro w' hSw
    try dsimp only at hSw
    go_simp
    first | done | with_reducible rfl
  simp only [Act.put, List.setIfInBounds_toArray, List.set_cons_succ, List.set_cons_zero]
  refine wpAnyH_take (i := 2) (oi := ?oi3) (v := ?vv3) ?hi3 ?hs3 ?hf3 ?ha3 ?hq3 ?hy3 hHeld ?hr3
  case hi3 => (simp only [List.getElem?_toArray, List.getElem?_cons_succ, List.getElem?_cons_zero]; exact rfl)
  case hs3 => kernel_rfl
  case hf3 => kernel_rfl
  case ha3 => kernel_rfl
  case hq3 => exact fun _ _ _ h => h
  case hy3 =>
    refine Or.inl ⟨by rfl, ?_⟩
    intro w' hSw
    try dsimp only at hSw
    go_simp
    first | done | with_reducible rfl
  simp only [Act.put, List.setIfInBounds_toArray, List.set_cons_succ, List.set_cons_zero]
  refine wpAnyH_take (i := 3) (oi := ?oi4) (v := ?vv4) ?hi4 ?hs4 ?hf4 ?ha4 ?hq4 ?hy4 hHeld ?hr4
  case hi4 => (simp only [List.getElem?_toArray, List.getElem?_cons_succ, List.getElem?_cons_zero]; exact rfl)
  case hs4 => kernel_rfl
  case hf4 => kernel_rfl
  case ha4 => kernel_rfl
  case hq4 => exact fun _ _ _ h => h
  case hy4 =>
    refine Or.inl ⟨by rfl, ?_⟩
    intro w' hSw
    try dsimp only at hSw
    go_simp
    first | done | with_reducible rfl
  simp only [Act.put, List.setIfInBounds_toArray, List.set_cons_succ, List.set_cons_zero]
  refine wpAnyH_ready (rs := [4]) (by kernel_rfl) (by simp) ?_
  refine AllReadyH.cons rfl (fun K hK => ?_) AllReadyH.nil
  go_simp
  go_at_call 43
  obtain ⟨BB, zz, k35_, k36_, k37_, k38_, k39_, k40_, k41_, zw⟩ := hHeld
  (with_reducible refine (rec_ A14_ c15_ _ _ _ k37_.ints (by first | omega | (simp; omega) | simp)).mono ?_)
  rintro e w48 ⟨A32_, c33_, rfl, ho34_, hb9⟩
  have ho34_ := ho34_.more (lo' := w13.heap.size + 1) (by omega) (Nat.le_refl _)
  refine hK.out _ _ ⟨BB.trans (hb9.mono (by omega)), Nat.le_trans zz hb9.size, k35_.below hb9 (by first | omega | (simp; omega) | simp), k36_.below hb9 (by first | omega | (simp; omega) | simp), k37_.below hb9 (by first | omega | (simp; omega) | simp), (hb9.cell (p := ⟨w.heap.size, 0, none⟩) (by first | omega | (simp; omega) | simp)).trans k38_, (hb9.cell (p := ⟨w.heap.size, 1, none⟩) (by first | omega | (simp; omega) | simp)).trans k39_, (hb9.cell (p := ⟨w13.heap.size, 0, none⟩) (by first | omega | (simp; omega) | simp)).trans k40_, (hb9.cell (p := ⟨w13.heap.size, 1, none⟩) (by first | omega | (simp; omega) | simp)).trans k41_, Nat.le_trans zw hb9.size⟩ (fun hHeld => ?_)
  clear hb9 zw k41_ k40_ k39_ k38_ k37_ k36_ k35_ zz BB
  clear hK K
  try simp only [Act.put, List.setIfInBounds_toArray, List.set_cons_zero, List.set_cons_succ]
  refine wpAnyH_take (i := 5) (oi := ?oi5) (v := ?vv5) ?hi5 ?hs5 ?hf5 ?ha5 ?hq5 ?hy5 hHeld ?hr5
  case hi5 => (simp only [List.getElem?_toArray, List.getElem?_cons_succ, List.getElem?_cons_zero]; exact rfl)
  case hs5 => kernel_rfl
  case hf5 => kernel_rfl
  case ha5 => kernel_rfl
  case hq5 => exact fun _ _ _ h => h
  case hy5 =>
    refine Or.inl ⟨by rfl, ?_⟩
    intro w' hSw
    try dsimp only at hSw
    go_simp
    first | done | with_reducible rfl
  simp only [Act.put, List.setIfInBounds_toArray, List.set_cons_succ, List.set_cons_zero]
  refine wpAnyH_done (by kernel_rfl) ?_ _
  obtain ⟨BB, zz, k35_, k36_, k37_, k38_, k39_, k40_, k41_, zw⟩ := hHeld
  have k49_ := BB
  clear BB
  have k50_ := zz
  clear zz
  have k51_ := zw
  clear zw
  go_wp2
  go_loopw [10, 6] (fun i v wr => ∃ k : Nat, ∃ g cg : Nat, i = .int .i64 k ∧ v = .slice (some ⟨g, 0, none⟩) k cg ∧ (k ≤ Y.length) ∧ (g = (w.heap.size + 1) ∨ w48.heap.size ≤ g) ∧ w.heap.size + 1 ≤ g ∧ Grow wr g cg (fnRow k (fun i => 48 * xs.getD i 0 - Y.getD i 0)) ∧ Below w.heap.size w wr ∧ w48.heap.size ≤ wr.heap.size ∧ Ints wr (lo) (hi) A xs ∧ Own wr (w.heap.size + 2) (w13.heap.size) A14_ xs ∧ Own wr (w13.heap.size + 1) (w48.heap.size) A32_ Y ∧ wr.cell? ⟨w.heap.size, 0, none⟩ = some (.int .i64 E) ∧ wr.cell? ⟨w.heap.size, 1, none⟩ = some (.slice A xs.length c) ∧ wr.cell? ⟨w13.heap.size, 0, none⟩ = some (.int .i64 (xs.sum - E)) ∧ wr.cell? ⟨w13.heap.size, 1, none⟩ = some (.slice A14_ xs.length c15_)) (fun i v _ => Y.length - (intOf i).toNat)
  case atStart => exact ⟨0, (w.heap.size + 1), 0, rfl, (slice_n (by first | rfl | omega | simp)), by omega, Or.inl rfl, (by omega), (by show Grow _ _ _ []; exact k36_), k49_, (by first | omega | (simp; omega) | simp), k35_, k37_, ho34_, k38_, k39_, k40_, k41_⟩
  case round =>
    obtain ⟨k, g, cg, rfl, rfl, hk, hga, glb, G53_, k54_, k55_, k56_, k57_, k58_, k59_, k60_, k61_, k62_⟩ := hrel
    obtain ⟨w52, rfl⟩ : ∃ x, x = wr := ⟨_, rfl⟩
    have HL63_ : Hid ((fnRow k (fun i => 48 * xs.getD i 0 - Y.getD i 0)).length = k) := fnRow_length _ _
    have l64_ := G53_.lt
    by_cases hlt1 : k < Y.length
    · obtain ⟨b65_, f66_, rfl, _, b65_h, -⟩ := k56_ (by omega)
      have c67_ : w52.cell? ⟨b65_, f66_ + k, none⟩ = some (.int .i64 (xs.getD k 0)) := k56_.at2 k (by first | omega | (simp; omega) | simp)
      have c67_i : (k : Int) < (xs.length : Int) := by omega
      have c67_j : (0 : Int) ≤ (k : Int) := by omega
      have v68_g := case_rg HCB.out k
      obtain ⟨v68_, hv68_⟩ : ∃ v, v = xs.getD k 0 := ⟨_, rfl⟩
      rw [← hv68_] at c67_ v68_g
      have Hv68_ := Lib.hid hv68_
      clear hv68_
      obtain ⟨v68_g1, v68_g2⟩ := v68_g
      obtain ⟨b69_, f70_, rfl, b69_l, b69_h, -⟩ := k58_.ints (by have e := HYL.out; omega)
      have c71_ : w52.cell? ⟨b69_, f70_ + k, none⟩ = some (.int .i64 (Y.getD k 0)) := k58_.ints.at2 k (by first | omega | (simp; omega) | simp)
      have c71_i : (k : Int) < (Y.length : Int) := by omega
      have c71_j : (0 : Int) ≤ (k : Int) := by omega
      have v72_g := HYR.out k
      obtain ⟨v72_, hv72_⟩ : ∃ v, v = Y.getD k 0 := ⟨_, rfl⟩
      rw [← hv72_] at c71_ v72_g
      have Hv72_ := Lib.hid hv72_
      clear hv72_
      obtain ⟨v72_g1, v72_g2⟩ := v72_g
      have HL75_ : Hid (([((48 * v68_) - v72_)] : List Int).length = 1) := rfl
      have HL79_ : Hid (((fnRow k (fun i => 48 * xs.getD i 0 - Y.getD i 0)) ++ ([((48 * v68_) - v72_)] : List Int)).length = k + 1) := by show _ = _; rw [List.length_append, HL63_.out, HL75_.out]
      have hw80_ : IntKind.i64.wrap (48 * v68_) = (48 * v68_) := IntWalk.i64_in _ (by omega)
      have hw81_ : IntKind.i64.wrap ((48 * v68_) - v72_) = ((48 * v68_) - v72_) := IntWalk.i64_in _ (by omega)
      have g91_ : w.heap.size < w52.heap.size := (by first | omega | (simp; omega) | simp)
      have g92_ : w13.heap.size < w52.heap.size := (by first | omega | (simp; omega) | simp)
      have g93_ : hi ≤ w52.heap.size := (by first | omega | (simp; omega) | simp)
      have g94_ : w13.heap.size ≤ w52.heap.size := (by first | omega | (simp; omega) | simp)
      have g95_ : w48.heap.size ≤ w52.heap.size := (by first | omega | (simp; omega) | simp)
      have g96_ : g + 1 ≤ w52.heap.size := (by first | omega | (simp; omega) | simp)
      have g97_ : b65_ < w52.heap.size := (by first | omega | (simp; omega) | simp)
      have g98_ : b69_ < w52.heap.size := (by first | omega | (simp; omega) | simp)
      have g99_ : w.heap.size ≤ w52.heap.size := (by first | omega | (simp; omega) | simp)
      go_wp2_with fail
      refine wp_region_held_drew (S := (fun w' : World => Below w.heap.size w w' ∧ w52.heap.size ≤ w'.heap.size ∧ Ints w' (lo) (hi) (some ⟨b65_, f66_, none⟩) xs ∧ Own w' (w.heap.size + 2) (w13.heap.size) A14_ xs ∧ Own w' (w13.heap.size + 1) (w48.heap.size) (some ⟨b69_, f70_, none⟩) Y ∧ w'.cell? ⟨w.heap.size, 0, none⟩ = some (.int .i64 E) ∧ w'.cell? ⟨w.heap.size, 1, none⟩ = some (.slice (some ⟨b65_, f66_, none⟩) xs.length c) ∧ w'.cell? ⟨w13.heap.size, 0, none⟩ = some (.int .i64 (xs.sum - E)) ∧ w'.cell? ⟨w13.heap.size, 1, none⟩ = some (.slice A14_ xs.length c15_) ∧ w'.cell? ⟨b65_, f66_ + k, none⟩ = some (.int .i64 v68_) ∧ w'.cell? ⟨b69_, f70_ + k, none⟩ = some (.int .i64 v72_) ∧ w52.heap.size ≤ w'.heap.size)) (by kernel_rfl) ⟨k54_.drew, by exact (by first | omega | (simp; omega) | simp), k56_, k57_, k58_, k59_, k60_, k61_, k62_, c67_, c71_, Nat.le_refl _⟩ (fun hHeld => ?_)
      have o100_ : Grow w52.drew g cg (fnRow k (fun i => 48 * xs.getD i 0 - Y.getD i 0)) := G53_
      refine wpAnyH_take (i := 0) (oi := ?oi6) (v := ?vv6) ?hi6 ?hs6 ?hf6 ?ha6 ?hq6 ?hy6 hHeld ?hr6
      case hi6 => (simp only [List.getElem?_toArray, List.getElem?_cons_zero]; exact rfl)
      case hs6 => kernel_rfl
      case hf6 => kernel_rfl
      case ha6 => kernel_rfl
      case hq6 => exact fun _ _ _ h => h
      case hy6 =>
        refine Or.inl ⟨by rfl, ?_⟩
        intro w' hSw
        try dsimp only at hSw
        go_simp
        first | done | with_reducible rfl
      simp only [Act.put, List.setIfInBounds_toArray, List.set_cons_succ, List.set_cons_zero]
      refine wpAnyH_take (i := 1) (oi := ?oi7) (v := ?vv7) ?hi7 ?hs7 ?hf7 ?ha7 ?hq7 ?hy7 hHeld ?hr7
      case hi7 => (simp only [List.getElem?_toArray, List.getElem?_cons_succ, List.getElem?_cons_zero]; exact rfl)
      case hs7 => kernel_rfl
      case hf7 => kernel_rfl
      case ha7 => kernel_rfl
      case hq7 => exact fun _ _ _ h => h
      case hy7 =>
        refine Or.inl ⟨by rfl, ?_⟩
        intro w' hSw
        try dsimp only at hSw
        go_simp
        first | done | with_reducible rfl
      simp only [Act.put, List.setIfInBounds_toArray, List.set_cons_succ, List.set_cons_zero]
      refine wpAnyH_take (i := 2) (oi := ?oi8) (v := ?vv8) ?hi8 ?hs8 ?hf8 ?ha8 ?hq8 ?hy8 hHeld ?hr8
      case hi8 => (simp only [List.getElem?_toArray, List.getElem?_cons_succ, List.getElem?_cons_zero]; exact rfl)
      case hs8 => kernel_rfl
      case hf8 => kernel_rfl
      case ha8 => kernel_rfl
      case hq8 => exact fun _ _ _ h => h
      case hy8 =>
        refine Or.inl ⟨by rfl, ?_⟩
        intro w' hSw
        try dsimp only at hSw
        go_simp
        first | done | with_reducible rfl
      simp only [Act.put, List.setIfInBounds_toArray, List.set_cons_succ, List.set_cons_zero]
      refine wpAnyH_take (i := 3) (oi := ?oi9) (v := ?vv9) ?hi9 ?hs9 ?hf9 ?ha9 ?hq9 ?hy9 hHeld ?hr9
      case hi9 => (simp only [List.getElem?_toArray, List.getElem?_cons_succ, List.getElem?_cons_zero]; exact rfl)
      case hs9 => kernel_rfl
      case hf9 => kernel_rfl
      case ha9 => kernel_rfl
      case hq9 => exact fun _ _ _ h => h
      case hy9 =>
        refine Or.inl ⟨by rfl, ?_⟩
        intro w' hSw
        try dsimp only at hSw
        go_simp
        first | done | with_reducible rfl
      simp only [Act.put, List.setIfInBounds_toArray, List.set_cons_succ, List.set_cons_zero]
      refine wpAnyH_take (i := 4) (oi := ?oi10) (v := ?vv10) ?hi10 ?hs10 ?hf10 ?ha10 ?hq10 ?hy10 hHeld ?hr10
      case hi10 => (simp only [List.getElem?_toArray, List.getElem?_cons_succ, List.getElem?_cons_zero]; exact rfl)
      case hs10 => kernel_rfl
      case hf10 => kernel_rfl
      case ha10 => kernel_rfl
      case hq10 => exact fun _ _ _ h => h
      case hy10 =>
        refine Or.inl ⟨by rfl, ?_⟩
        intro w' hSw
        try dsimp only at hSw
        go_simp
        first | done | with_reducible rfl
      simp only [Act.put, List.setIfInBounds_toArray, List.set_cons_succ, List.set_cons_zero]
      refine wpAnyH_take (i := 5) (oi := ?oi11) (v := ?vv11) ?hi11 ?hs11 ?hf11 ?ha11 ?hq11 ?hy11 hHeld ?hr11
      case hi11 => (simp only [List.getElem?_toArray, List.getElem?_cons_succ, List.getElem?_cons_zero]; exact rfl)
      case hs11 => kernel_rfl
      case hf11 => kernel_rfl
      case ha11 => kernel_rfl
      case hq11 => exact fun _ _ _ h => h
      case hy11 =>
        refine Or.inl ⟨by rfl, ?_⟩
        intro w' hSw
        try dsimp only at hSw
        go_simp
        first | done | with_reducible rfl
      simp only [Act.put, List.setIfInBounds_toArray, List.set_cons_succ, List.set_cons_zero]
      refine wpAnyH_take (i := 6) (oi := ?oi12) (v := ?vv12) ?hi12 ?hs12 ?hf12 ?ha12 ?hq12 ?hy12 hHeld ?hr12
      case hi12 => (simp only [List.getElem?_toArray, List.getElem?_cons_succ, List.getElem?_cons_zero]; exact rfl)
      case hs12 => kernel_rfl
      case hf12 => kernel_rfl
      case ha12 => kernel_rfl
      case hq12 => exact fun _ _ _ h => h
      case hy12 =>
        refine Or.inl ⟨by rfl, ?_⟩
        intro w' hSw
        try dsimp only at hSw
        go_simp
        first | done | with_reducible rfl
      simp only [Act.put, List.setIfInBounds_toArray, List.set_cons_succ, List.set_cons_zero]
      refine wpAnyH_take (i := 7) (oi := ?oi13) (v := ?vv13) ?hi13 ?hs13 ?hf13 ?ha13 ?hq13 ?hy13 hHeld ?hr13
      case hi13 => (simp only [List.getElem?_toArray, List.getElem?_cons_succ, List.getElem?_cons_zero]; exact rfl)
      case hs13 => kernel_rfl
      case hf13 => kernel_rfl
      case ha13 => kernel_rfl
      case hq13 => exact fun _ _ _ h => h
      case hy13 =>
        refine Or.inl ⟨by rfl, ?_⟩
        intro w' hSw
        try dsimp only at hSw
        go_simp
        first | done | with_reducible rfl
      simp only [Act.put, List.setIfInBounds_toArray, List.set_cons_succ, List.set_cons_zero]
      refine wpAnyH_take (i := 8) (oi := ?oi14) (v := ?vv14) ?hi14 ?hs14 ?hf14 ?ha14 ?hq14 ?hy14 hHeld ?hr14
      case hi14 => (simp only [List.getElem?_toArray, List.getElem?_cons_succ, List.getElem?_cons_zero]; exact rfl)
      case hs14 => kernel_rfl
      case hf14 => kernel_rfl
      case ha14 => kernel_rfl
      case hq14 => exact fun _ _ _ h => h
      case hy14 =>
        refine Or.inl ⟨by rfl, ?_⟩
        intro w' hSw
        try dsimp only at hSw
        go_simp
        first | done | with_reducible rfl
      simp only [Act.put, List.setIfInBounds_toArray, List.set_cons_succ, List.set_cons_zero]
      refine wpAnyH_take (i := 9) (oi := ?oi15) (v := ?vv15) ?hi15 ?hs15 ?hf15 ?ha15 ?hq15 ?hy15 hHeld ?hr15
      case hi15 => (simp only [List.getElem?_toArray, List.getElem?_cons_succ, List.getElem?_cons_zero]; exact rfl)
      case hs15 => kernel_rfl
      case hf15 => kernel_rfl
      case ha15 => kernel_rfl
      case hq15 => exact fun _ _ _ h => h
      case hy15 =>
        refine Or.inl ⟨by rfl, ?_⟩
        intro w' hSw
        try dsimp only at hSw
        go_simp
        first | done | with_reducible rfl
      simp only [Act.put, List.setIfInBounds_toArray, List.set_cons_succ, List.set_cons_zero]
      refine wpAnyH_take (i := 10) (oi := ?oi16) (v := ?vv16) ?hi16 ?hs16 ?hf16 ?ha16 ?hq16 ?hy16 hHeld ?hr16
      case hi16 => (simp only [List.getElem?_toArray, List.getElem?_cons_succ, List.getElem?_cons_zero]; exact rfl)
      case hs16 => kernel_rfl
      case hf16 => kernel_rfl
      case ha16 => kernel_rfl
      case hq16 => exact fun _ _ _ h => h
      case hy16 =>
        refine Or.inl ⟨by rfl, ?_⟩
        intro w' hSw
        try dsimp only at hSw
        go_simp
        first | done | with_reducible rfl
      simp only [Act.put, List.setIfInBounds_toArray, List.set_cons_succ, List.set_cons_zero]
      refine wpAnyH_take (i := 11) (oi := ?oi17) (v := ?vv17) ?hi17 ?hs17 ?hf17 ?ha17 ?hq17 ?hy17 hHeld ?hr17
      case hi17 => (simp only [List.getElem?_toArray, List.getElem?_cons_succ, List.getElem?_cons_zero]; exact rfl)
      case hs17 => kernel_rfl
      case hf17 => kernel_rfl
      case ha17 => kernel_rfl
      case hq17 => exact fun _ _ _ h => h
      case hy17 =>
        refine Or.inl ⟨by rfl, ?_⟩
        intro w' hSw
        try dsimp only at hSw
        go_simp
        first | done | with_reducible rfl
      simp only [Act.put, List.setIfInBounds_toArray, List.set_cons_succ, List.set_cons_zero]
      refine wpAnyH_ready (rs := [12]) (by kernel_rfl) (by simp) ?_
      refine AllReadyH.cons rfl (fun K hK => ?_) AllReadyH.nil
      obtain ⟨BB, zz, k82_, k83_, k84_, k85_, k86_, k87_, k88_, q89_, q90_, zw⟩ := hHeld
      go_simp
      have G74_ : Grow ((w52.alloc (.cells #[.int .i64 ((48 * v68_) - v72_)] 3)).drew) (w52.heap.size) 1 ([((48 * v68_) - v72_)] : List Int) := grow_lit w52.drew ([((48 * v68_) - v72_)] : List Int) (by simp)
      have hb9 : Below w52.drew.heap.size w52.drew ((w52.alloc (.cells #[.int .i64 ((48 * v68_) - v72_)] 3)).drew) := (Below.refl _ w52.drew).alloc (Nat.le_refl _) (.cells #[.int .i64 ((48 * v68_) - v72_)] 3)
      obtain ⟨g73_, hg73_⟩ : ∃ g, w52.heap.size = g := ⟨_, rfl⟩
      rw [hg73_] at G74_
      simp only [hg73_]
      have lg73_ : w.heap.size ≤ g73_ := by omega
      have leg73_ : g73_ ≤ w52.heap.size := by omega
      have geg73_ : w52.heap.size ≤ g73_ := by omega
      obtain ⟨w101, hw101⟩ : ∃ x, x = ((w52.alloc (.cells #[.int .i64 ((48 * v68_) - v72_)] 3)).drew) := ⟨_, rfl⟩
      rw [← hw101] at G74_ hb9
      rw [← hw101]
      clear hw101 hg73_
      have l102_ := G74_.lt
      have o103_ := o100_.below hb9 (by first | omega | (simp; omega) | simp)
      refine hK.out _ _ ⟨BB.trans (hb9.mono (by omega)), Nat.le_trans zz hb9.size, k82_.below hb9 (by first | omega | (simp; omega) | simp), k83_.below hb9 (by first | omega | (simp; omega) | simp), k84_.below hb9 (by first | omega | (simp; omega) | simp), (hb9.cell (p := ⟨w.heap.size, 0, none⟩) (by first | omega | (simp; omega) | simp)).trans k85_, (hb9.cell (p := ⟨w.heap.size, 1, none⟩) (by first | omega | (simp; omega) | simp)).trans k86_, (hb9.cell (p := ⟨w13.heap.size, 0, none⟩) (by first | omega | (simp; omega) | simp)).trans k87_, (hb9.cell (p := ⟨w13.heap.size, 1, none⟩) (by first | omega | (simp; omega) | simp)).trans k88_, (hb9.cell (by show b65_ < _; omega)).trans q89_, (hb9.cell (by show b69_ < _; omega)).trans q90_, Nat.le_trans zw hb9.size⟩ (fun hHeld => ?_)
      clear hb9 zw q90_ q89_ k88_ k87_ k86_ k85_ k84_ k83_ k82_ zz BB
      clear hK K
      try simp only [Act.put, List.setIfInBounds_toArray, List.set_cons_zero, List.set_cons_succ]
      refine wpAnyH_ready (rs := [13]) (by kernel_rfl) (by simp) ?_
      refine AllReadyH.cons (o := ?ox18) ?hx18 (fun K hK => ?_) AllReadyH.nil
      case hx18 => (simp only [List.getElem?_toArray, List.getElem?_cons_succ, List.getElem?_cons_zero]; exact rfl)
      obtain ⟨BB, zz, k82_, k83_, k84_, k85_, k86_, k87_, k88_, q89_, q90_, zw⟩ := hHeld
      refine step_gr (by rfl) _ _ (by rfl) (xs := (fnRow k (fun i => 48 * xs.getD i 0 - Y.getD i 0))) (ys := ([((48 * v68_) - v72_)] : List Int)) (by rfl) (by have e := HL63_.out; omega) o103_ (by rfl) (by have e := HL75_.out; omega) (G74_.ints.read) (by omega) ?_
      intro g76_ c77_ w104 G78_ hC105_ hg76_
      have lg76_ : w.heap.size ≤ g76_ := by omega
      have l106_ := G78_.lt
      have G74_ := G74_.chg hC105_ (by omega)
      refine hK.out _ _ ⟨BB.trans (hC105_.below (by omega) (by omega)), Nat.le_trans zz hC105_.size, k82_.chg hC105_ (by first | omega | (simp; omega) | simp) (by omega), k83_.chg hC105_ (by first | omega | (simp; omega) | simp) (by omega), k84_.chg hC105_ (by first | omega | (simp; omega) | simp) (by omega), (hC105_.cell (p := ⟨w.heap.size, 0, none⟩) (by first | omega | (simp; omega) | simp) (by first | omega | (simp; omega) | simp)).trans k85_, (hC105_.cell (p := ⟨w.heap.size, 1, none⟩) (by first | omega | (simp; omega) | simp) (by first | omega | (simp; omega) | simp)).trans k86_, (hC105_.cell (p := ⟨w13.heap.size, 0, none⟩) (by first | omega | (simp; omega) | simp) (by first | omega | (simp; omega) | simp)).trans k87_, (hC105_.cell (p := ⟨w13.heap.size, 1, none⟩) (by first | omega | (simp; omega) | simp) (by first | omega | (simp; omega) | simp)).trans k88_, (hC105_.cell (by show b65_ < _; omega) (by first | omega | (simp; omega) | simp)).trans q89_, (hC105_.cell (by show b69_ < _; omega) (by first | omega | (simp; omega) | simp)).trans q90_, Nat.le_trans zw hC105_.size⟩ (fun hHeld => ?_)
      clear hC105_ zw q90_ q89_ k88_ k87_ k86_ k85_ k84_ k83_ k82_ zz BB
      clear hK K
      try simp only [Act.put, List.setIfInBounds_toArray, List.set_cons_zero, List.set_cons_succ]
      refine wpAnyH_take (i := 14) (oi := ?oi19) (v := ?vv19) ?hi19 ?hs19 ?hf19 ?ha19 ?hq19 ?hy19 hHeld ?hr19
      case hi19 => (simp only [List.getElem?_toArray, List.getElem?_cons_succ, List.getElem?_cons_zero]; exact rfl)
      case hs19 => kernel_rfl
      case hf19 => kernel_rfl
      case ha19 => kernel_rfl
      case hq19 => exact fun _ _ _ h => h
      case hy19 =>
        refine Or.inl ⟨by rfl, ?_⟩
        intro w' hSw
        try dsimp only at hSw
        go_simp
        first | done | with_reducible rfl
      simp only [Act.put, List.setIfInBounds_toArray, List.set_cons_succ, List.set_cons_zero]
      refine wpAnyH_done (by kernel_rfl) ?_ _
      obtain ⟨BB, zz, k82_, k83_, k84_, k85_, k86_, k87_, k88_, q89_, q90_, zw⟩ := hHeld
      clear hw80_ hw81_
      have k107_ := BB
      clear BB
      have k108_ := zz
      clear zz
      have k109_ := zw
      clear zw
      go_wp2
      go_roundw
      case rel => exact ⟨k + 1, g76_, c77_, by go_num, (slice_n (by first | rfl | omega | simp)), by omega, by omega, (by omega), (by rw [fnRow_succ, ← Hv68_.out, ← Hv72_.out]; exact G78_), k107_, (by first | omega | (simp; omega) | simp), k82_, k83_, k84_, k85_, k86_, k87_, k88_⟩
      case measure => simp [intOf] <;> omega
    · obtain rfl : k = Y.length := by omega
      have hrev : (p ++ [100]).reverse = 100 :: p.reverse := by simp
      have hfin : ruleAw (p ++ [100]).reverse E xs = fnRow Y.length (fun i => 48 * xs.getD i 0 - Y.getD i 0) := by rw [hrev, aw_d, HYD.out, loss_row HYL.out]
      have HFIN := Lib.hid hfin
      clear hfin hrev
      go_wp2
      go_ret
      rw [HFIN.out]
      (refine retInts_grow G53_ (by omega) ?_ k54_; rw [fnRow_length])

set_option maxRecDepth 10000 in
set_option maxHeartbeats 2000000 in
theorem spec_l8Awards_c (E : Int) (A : Option Addr) (c : Nat) (xs : List Int) (p : List UInt8) (w : World) (lo hi : Nat) (h : Ints w lo hi A xs) (hh : hi ≤ w.heap.size) (hp : p.length ≤ 7) (hok : caseOkB E xs = true) (hokr : okR p.reverse = true) (ih : ∀ (E : Int) (A : Option Addr) (c : Nat) (xs : List Int) (w : World) (lo hi : Nat), Ints w lo hi A xs → hi ≤ w.heap.size → caseOkB E xs = true → Calls Try.prog 43 #[.agg #[.int .i64 E, .slice A xs.length c], .string (S p)] w (RetInts w (ruleAw p.reverse E xs))) :
    Calls Try.prog 43 #[.agg #[.int .i64 E, .slice A xs.length c], .string (S (p ++ [99]))] w (RetInts w (ruleAw (p ++ [99]).reverse E xs)) := by
  have hS1 := S_size
  have hS2 : ∀ (l : List UInt8) (k : Nat) (h : k < (S l).size), (S l)[k]'h = l[k]'(by rw [S_size] at h; exact h) := fun _ _ h => S_at2 h
  have HCB := Lib.hid hok
  have hbd := caseOk_bd hok
  have hpl : (p ++ [99]).length = p.length + 1 := last_size p 99
  have hpl1 : (p.length : Int) < ((p ++ [99]).length : Int) := by omega
  clear hpl
  have hok2 := cut_ok hok
  obtain ⟨Y, hY⟩ : ∃ Y, ruleAw p.reverse E (cutRow E xs) = Y := ⟨_, rfl⟩
  have HYR : Hid (∀ k, 0 ≤ Y.getD k 0 ∧ Y.getD k 0 ≤ 2304) := fun k => by rw [← hY]; exact rule_rg hokr hok2 k
  have HYL : Hid (Y.length = xs.length) := by show _ = _; rw [← hY, rule_len hokr hok2]; exact cutRow_length _ _
  have hyl1 : Y.length ≤ xs.length := by have e := HYL.out; omega
  have hyl2 : xs.length ≤ Y.length := by have e := HYL.out; omega
  have HXL : Hid ((cutRow E xs).length = xs.length) := cutRow_length _ _
  have rec_ : ∀ (A : Option Addr) (c : Nat) (w : World) (lo hi : Nat), Ints w lo hi A (cutRow E xs) → hi ≤ w.heap.size → Calls Try.prog 43 #[.agg #[.int .i64 E, .slice A (cutRow E xs).length c], .string (S p)] w (RetInts w Y) := fun A c w lo hi h1 h2 => by rw [← hY]; exact ih _ A c _ w lo hi h1 h2 hok2
  have HYD := Lib.hid hY
  clear hY hok2 ih
  clear hok
  go_enter Try.func43, Try.ntmps43
  have o1_ := h.alloc (by first | omega | (simp; omega) | simp) (.cells #[.int .i64 E, .slice A xs.length c] 28)
  have B2_ := (Below.refl w.heap.size w).alloc (Nat.le_refl _) (.cells #[.int .i64 E, .slice A xs.length c] 28)
  have a3_ : (w.alloc (.cells #[.int .i64 E, .slice A xs.length c] 28)).cell? ⟨w.heap.size, 0, none⟩ = some (.int .i64 E) := by simp [go_sem]
  have a4_ : (w.alloc (.cells #[.int .i64 E, .slice A xs.length c] 28)).cell? ⟨w.heap.size, 1, none⟩ = some (.slice A xs.length c) := by simp [go_sem]
  have o5_ := o1_.alloc (by first | omega | (simp; omega) | simp) (.cells #[] 3)
  have o6_ := cell_alloc (o := (.cells #[] 3)) a3_ (by first | omega | (simp; omega) | simp)
  have o7_ := cell_alloc (o := (.cells #[] 3)) a4_ (by first | omega | (simp; omega) | simp)
  have B8_ := B2_.alloc (by first | omega | (simp; omega) | simp) (.cells #[] 3)
  have G9_ : Grow ((w.alloc (.cells #[.int .i64 E, .slice A xs.length c] 28)).alloc (.cells #[] 3)) (w.heap.size + 1) 0 ([] : List Int) := by have e := grow_lit (w.alloc (.cells #[.int .i64 E, .slice A xs.length c] 28)) ([] : List Int) (by simp); (try simp only [hsz] at e); exact e
  have l10_ := G9_.lt
  have HL11_ : Hid (([] : List Int).length = 0) := rfl
  have v12_i : (p.length : Int) < ((p ++ [99]).length : Int) := by omega
  have v12_j : (0 : Int) ≤ (p.length : Int) := by omega
  have v12_k : p.length < (p ++ [99]).length := by omega
  have hv12_ : ((((p ++ [99])[p.length]'v12_k).toNat : Nat) : Int) = 99 := by rw [List.getElem_concat_length rfl]; rfl
  go_wp2_with fail
  refine (specCutCase_yes E A c xs _ _ _ o5_ (by first | omega | (simp; omega) | simp) HCB.out).mono ?_
  rintro e w13 ⟨A14_, c15_, rfl, ho16_, hb13_⟩
  have ho16_ : Own w13 (w.heap.size + 2) w13.heap.size A14_ (cutRow E xs) := ho16_.more (by simp) (Nat.le_refl _)
  have o17_ := o5_.below hb13_ (by first | omega | (simp; omega) | simp)
  have o18_ := G9_.below hb13_ (by first | omega | (simp; omega) | simp)
  have o19_ := (hb13_.cell (p := ⟨w.heap.size, 0, none⟩) (by first | omega | (simp; omega) | simp)).trans o6_
  have o20_ := (hb13_.cell (p := ⟨w.heap.size, 1, none⟩) (by first | omega | (simp; omega) | simp)).trans o7_
  have z21_ := hb13_.size
  try simp at z21_
  have B22_ := B8_.trans (hb13_.mono (by first | omega | (simp; omega) | simp))
  clear hb13_
  have o23_ := o17_.alloc (by first | omega | (simp; omega) | simp) (.cells #[.int .i64 E, .slice A14_ (cutRow E xs).length c15_] 28)
  have o24_ := o18_.alloc (.cells #[.int .i64 E, .slice A14_ (cutRow E xs).length c15_] 28)
  have o25_ := ho16_.alloc (by first | omega | (simp; omega) | simp) (.cells #[.int .i64 E, .slice A14_ (cutRow E xs).length c15_] 28)
  have o26_ := cell_alloc (o := (.cells #[.int .i64 E, .slice A14_ (cutRow E xs).length c15_] 28)) o19_ (by first | omega | (simp; omega) | simp)
  have o27_ := cell_alloc (o := (.cells #[.int .i64 E, .slice A14_ (cutRow E xs).length c15_] 28)) o20_ (by first | omega | (simp; omega) | simp)
  have B28_ := B22_.alloc (by first | omega | (simp; omega) | simp) (.cells #[.int .i64 E, .slice A14_ (cutRow E xs).length c15_] 28)
  have a29_ : (w13.alloc (.cells #[.int .i64 E, .slice A14_ (cutRow E xs).length c15_] 28)).cell? ⟨w13.heap.size, 0, none⟩ = some (.int .i64 E) := by simp [go_sem]
  have a30_ : (w13.alloc (.cells #[.int .i64 E, .slice A14_ (cutRow E xs).length c15_] 28)).cell? ⟨w13.heap.size, 1, none⟩ = some (.slice A14_ (cutRow E xs).length c15_) := by simp [go_sem]
  have hx31_m : (p.length : Int) ≤ ((p.length : Int) + 1) := by omega
  have hx31_l : (p.length : Int) ≤ ((p ++ [99]).length : Int) := by omega
  have hx31_g : (0 : Int) ≤ (p.length : Int) := by omega
  have hx31_ : (S (p ++ [99])).extract 0 p.length = S p := by rw [S_front, List.take_left]
  have g42_ : w.heap.size < (w13.alloc (.cells #[.int .i64 E, .slice A14_ (cutRow E xs).length c15_] 28)).heap.size := (by first | omega | (simp; omega) | simp)
  have g43_ : w13.heap.size < (w13.alloc (.cells #[.int .i64 E, .slice A14_ (cutRow E xs).length c15_] 28)).heap.size := (by first | omega | (simp; omega) | simp)
  have g44_ : hi ≤ (w13.alloc (.cells #[.int .i64 E, .slice A14_ (cutRow E xs).length c15_] 28)).heap.size := (by first | omega | (simp; omega) | simp)
  have g45_ : (w.heap.size + 1) + 1 ≤ (w13.alloc (.cells #[.int .i64 E, .slice A14_ (cutRow E xs).length c15_] 28)).heap.size := (by first | omega | (simp; omega) | simp)
  have g46_ : w13.heap.size ≤ (w13.alloc (.cells #[.int .i64 E, .slice A14_ (cutRow E xs).length c15_] 28)).heap.size := (by first | omega | (simp; omega) | simp)
  have g47_ : w.heap.size ≤ (w13.alloc (.cells #[.int .i64 E, .slice A14_ (cutRow E xs).length c15_] 28)).heap.size := (by first | omega | (simp; omega) | simp)
  go_wp2_with fail
  refine wp_region_held_drew (S := (fun w' : World => Below w.heap.size w w' ∧ w13.heap.size + 1 ≤ w'.heap.size ∧ Ints w' (lo) (hi) A xs ∧ Grow w' (w.heap.size + 1) 0 ([] : List Int) ∧ Own w' (w.heap.size + 2) (w13.heap.size) A14_ (cutRow E xs) ∧ w'.cell? ⟨w.heap.size, 0, none⟩ = some (.int .i64 E) ∧ w'.cell? ⟨w.heap.size, 1, none⟩ = some (.slice A xs.length c) ∧ w'.cell? ⟨w13.heap.size, 0, none⟩ = some (.int .i64 E) ∧ w'.cell? ⟨w13.heap.size, 1, none⟩ = some (.slice A14_ (cutRow E xs).length c15_) ∧ (w13.alloc (.cells #[.int .i64 E, .slice A14_ (cutRow E xs).length c15_] 28)).heap.size ≤ w'.heap.size)) (by kernel_rfl) ⟨B28_.drew, by exact (by first | omega | (simp; omega) | simp), o23_, o24_, o25_, o26_, o27_, a29_, a30_, Nat.le_refl _⟩ (fun hHeld => ?_)
  refine wpAnyH_take (i := 0) (oi := ?oi1) (v := ?vv1) ?hi1 ?hs1 ?hf1 ?ha1 ?hq1 ?hy1 hHeld ?hr1
  case hi1 => (simp only [List.getElem?_toArray, List.getElem?_cons_zero]; exact rfl)
  case hs1 => kernel_rfl
  case hf1 => kernel_rfl
  case ha1 => kernel_rfl
  case hq1 => exact fun _ _ _ h => h
  case hy1 =>
    refine Or.inl ⟨by rfl, ?_⟩
    intro w' hSw
    try dsimp only at hSw
    go_simp
    first | done | with_reducible rfl
  simp only [Act.put, List.setIfInBounds_toArray, List.set_cons_succ, List.set_cons_zero]
  refine wpAnyH_take (i := 1) (oi := ?oi2) (v := ?vv2) ?hi2 ?hs2 ?hf2 ?ha2 ?hq2 ?hy2 hHeld ?hr2
  case hi2 => (simp only [List.getElem?_toArray, List.getElem?_cons_succ, List.getElem?_cons_zero]; exact rfl)
  case hs2 => kernel_rfl
  case hf2 => kernel_rfl
  case ha2 => kernel_rfl
  case hq2 => exact fun _ _ _ h => h
  case hy2 =>
    refine Or.inl ⟨by rfl, ?_⟩
    intro w' hSw
    try dsimp only at hSw
    go_simp
    first | done | with_reducible rfl
  simp only [Act.put, List.setIfInBounds_toArray, List.set_cons_succ, List.set_cons_zero]
  refine wpAnyH_take (i := 2) (oi := ?oi3) (v := ?vv3) ?hi3 ?hs3 ?hf3 ?ha3 ?hq3 ?hy3 hHeld ?hr3
  case hi3 => (simp only [List.getElem?_toArray, List.getElem?_cons_succ, List.getElem?_cons_zero]; exact rfl)
  case hs3 => kernel_rfl
  case hf3 => kernel_rfl
  case ha3 => kernel_rfl
  case hq3 => exact fun _ _ _ h => h
  case hy3 =>
    refine Or.inl ⟨by rfl, ?_⟩
    intro w' hSw
    try dsimp only at hSw
    go_simp
    first | done | with_reducible rfl
  simp only [Act.put, List.setIfInBounds_toArray, List.set_cons_succ, List.set_cons_zero]
  refine wpAnyH_take (i := 3) (oi := ?oi4) (v := ?vv4) ?hi4 ?hs4 ?hf4 ?ha4 ?hq4 ?hy4 hHeld ?hr4
  case hi4 => (simp only [List.getElem?_toArray, List.getElem?_cons_succ, List.getElem?_cons_zero]; exact rfl)
  case hs4 => kernel_rfl
  case hf4 => kernel_rfl
  case ha4 => kernel_rfl
  case hq4 => exact fun _ _ _ h => h
  case hy4 =>
    refine Or.inl ⟨by rfl, ?_⟩
    intro w' hSw
    try dsimp only at hSw
    go_simp
    first | done | with_reducible rfl
  simp only [Act.put, List.setIfInBounds_toArray, List.set_cons_succ, List.set_cons_zero]
  refine wpAnyH_ready (rs := [4]) (by kernel_rfl) (by simp) ?_
  refine AllReadyH.cons rfl (fun K hK => ?_) AllReadyH.nil
  go_simp
  go_at_call 43
  obtain ⟨BB, zz, k35_, k36_, k37_, k38_, k39_, k40_, k41_, zw⟩ := hHeld
  (with_reducible refine (rec_ A14_ c15_ _ _ _ k37_.ints (by first | omega | (simp; omega) | simp)).mono ?_)
  rintro e w48 ⟨A32_, c33_, rfl, ho34_, hb9⟩
  have ho34_ := ho34_.more (lo' := w13.heap.size + 1) (by omega) (Nat.le_refl _)
  refine hK.out _ _ ⟨BB.trans (hb9.mono (by omega)), Nat.le_trans zz hb9.size, k35_.below hb9 (by first | omega | (simp; omega) | simp), k36_.below hb9 (by first | omega | (simp; omega) | simp), k37_.below hb9 (by first | omega | (simp; omega) | simp), (hb9.cell (p := ⟨w.heap.size, 0, none⟩) (by first | omega | (simp; omega) | simp)).trans k38_, (hb9.cell (p := ⟨w.heap.size, 1, none⟩) (by first | omega | (simp; omega) | simp)).trans k39_, (hb9.cell (p := ⟨w13.heap.size, 0, none⟩) (by first | omega | (simp; omega) | simp)).trans k40_, (hb9.cell (p := ⟨w13.heap.size, 1, none⟩) (by first | omega | (simp; omega) | simp)).trans k41_, Nat.le_trans zw hb9.size⟩ (fun hHeld => ?_)
  clear hb9 zw k41_ k40_ k39_ k38_ k37_ k36_ k35_ zz BB
  clear hK K
  try simp only [Act.put, List.setIfInBounds_toArray, List.set_cons_zero, List.set_cons_succ]
  refine wpAnyH_take (i := 5) (oi := ?oi5) (v := ?vv5) ?hi5 ?hs5 ?hf5 ?ha5 ?hq5 ?hy5 hHeld ?hr5
  case hi5 => (simp only [List.getElem?_toArray, List.getElem?_cons_succ, List.getElem?_cons_zero]; exact rfl)
  case hs5 => kernel_rfl
  case hf5 => kernel_rfl
  case ha5 => kernel_rfl
  case hq5 => exact fun _ _ _ h => h
  case hy5 =>
    refine Or.inl ⟨by rfl, ?_⟩
    intro w' hSw
    try dsimp only at hSw
    go_simp
    first | done | with_reducible rfl
  simp only [Act.put, List.setIfInBounds_toArray, List.set_cons_succ, List.set_cons_zero]
  refine wpAnyH_done (by kernel_rfl) ?_ _
  obtain ⟨BB, zz, k35_, k36_, k37_, k38_, k39_, k40_, k41_, zw⟩ := hHeld
  have k49_ := BB
  clear BB
  have k50_ := zz
  clear zz
  have k51_ := zw
  clear zw
  have hrev : (p ++ [99]).reverse = 99 :: p.reverse := by simp
  have hfin : ruleAw (p ++ [99]).reverse E xs = Y := by rw [hrev, aw_c]; exact HYD.out
  have HFIN := Lib.hid hfin
  clear hfin hrev
  go_wp2
  go_ret
  rw [HFIN.out]
  exact ⟨A32_, c33_, rfl, ho34_.more (by omega) (Nat.le_refl _), k49_⟩

set_option maxRecDepth 10000 in
set_option maxHeartbeats 2000000 in
theorem spec_l8Awards_r (E : Int) (A : Option Addr) (c : Nat) (xs : List Int) (p : List UInt8) (w : World) (lo hi : Nat) (h : Ints w lo hi A xs) (hh : hi ≤ w.heap.size) (hp : p.length ≤ 7) (hok : caseOkB E xs = true) (hokr : okR p.reverse = true) (ih : ∀ (E : Int) (A : Option Addr) (c : Nat) (xs : List Int) (w : World) (lo hi : Nat), Ints w lo hi A xs → hi ≤ w.heap.size → caseOkB E xs = true → Calls Try.prog 43 #[.agg #[.int .i64 E, .slice A xs.length c], .string (S p)] w (RetInts w (ruleAw p.reverse E xs))) :
    Calls Try.prog 43 #[.agg #[.int .i64 E, .slice A xs.length c], .string (S (p ++ [114]))] w (RetInts w (ruleAw (p ++ [114]).reverse E xs)) := by
  have hS1 := S_size
  have hS2 : ∀ (l : List UInt8) (k : Nat) (h : k < (S l).size), (S l)[k]'h = l[k]'(by rw [S_size] at h; exact h) := fun _ _ h => S_at2 h
  have HCB := Lib.hid hok
  have hbd := caseOk_bd hok
  have hpl : (p ++ [114]).length = p.length + 1 := last_size p 114
  have hpl1 : (p.length : Int) < ((p ++ [114]).length : Int) := by omega
  clear hpl
  have hok2 := rest_ok hok
  obtain ⟨Y, hY⟩ : ∃ Y, ruleAw p.reverse (E - (rightsRow E xs).sum) (cutRow (xs.sum - E) xs) = Y := ⟨_, rfl⟩
  have HYR : Hid (∀ k, 0 ≤ Y.getD k 0 ∧ Y.getD k 0 ≤ 2304) := fun k => by rw [← hY]; exact rule_rg hokr hok2 k
  have HYL : Hid (Y.length = xs.length) := by show _ = _; rw [← hY, rule_len hokr hok2]; exact cutRow_length _ _
  have hyl1 : Y.length ≤ xs.length := by have e := HYL.out; omega
  have hyl2 : xs.length ≤ Y.length := by have e := HYL.out; omega
  have HXL : Hid ((cutRow (xs.sum - E) xs).length = xs.length) := cutRow_length _ _
  have rec_ : ∀ (A : Option Addr) (c : Nat) (w : World) (lo hi : Nat), Ints w lo hi A (cutRow (xs.sum - E) xs) → hi ≤ w.heap.size → Calls Try.prog 43 #[.agg #[.int .i64 (E - (rightsRow E xs).sum), .slice A (cutRow (xs.sum - E) xs).length c], .string (S p)] w (RetInts w Y) := fun A c w lo hi h1 h2 => by rw [← hY]; exact ih _ A c _ w lo hi h1 h2 hok2
  have HYD := Lib.hid hY
  clear hY hok2 ih
  clear hok
  have hrl1 : (rightsRow E xs).length ≤ xs.length := by rw [rightsRow_length]; omega
  have hrl2 : xs.length ≤ (rightsRow E xs).length := by rw [rightsRow_length]; omega
  go_enter Try.func43, Try.ntmps43
  have o1_ := h.alloc (by first | omega | (simp; omega) | simp) (.cells #[.int .i64 E, .slice A xs.length c] 28)
  have B2_ := (Below.refl w.heap.size w).alloc (Nat.le_refl _) (.cells #[.int .i64 E, .slice A xs.length c] 28)
  have a3_ : (w.alloc (.cells #[.int .i64 E, .slice A xs.length c] 28)).cell? ⟨w.heap.size, 0, none⟩ = some (.int .i64 E) := by simp [go_sem]
  have a4_ : (w.alloc (.cells #[.int .i64 E, .slice A xs.length c] 28)).cell? ⟨w.heap.size, 1, none⟩ = some (.slice A xs.length c) := by simp [go_sem]
  have o5_ := o1_.alloc (by first | omega | (simp; omega) | simp) (.cells #[] 3)
  have o6_ := cell_alloc (o := (.cells #[] 3)) a3_ (by first | omega | (simp; omega) | simp)
  have o7_ := cell_alloc (o := (.cells #[] 3)) a4_ (by first | omega | (simp; omega) | simp)
  have B8_ := B2_.alloc (by first | omega | (simp; omega) | simp) (.cells #[] 3)
  have G9_ : Grow ((w.alloc (.cells #[.int .i64 E, .slice A xs.length c] 28)).alloc (.cells #[] 3)) (w.heap.size + 1) 0 ([] : List Int) := by have e := grow_lit (w.alloc (.cells #[.int .i64 E, .slice A xs.length c] 28)) ([] : List Int) (by simp); (try simp only [hsz] at e); exact e
  have l10_ := G9_.lt
  have HL11_ : Hid (([] : List Int).length = 0) := rfl
  have v12_i : (p.length : Int) < ((p ++ [114]).length : Int) := by omega
  have v12_j : (0 : Int) ≤ (p.length : Int) := by omega
  have v12_k : p.length < (p ++ [114]).length := by omega
  have hv12_ : ((((p ++ [114])[p.length]'v12_k).toNat : Nat) : Int) = 114 := by rw [List.getElem_concat_length rfl]; rfl
  go_wp2_with fail
  refine (specRestCut_yes E A c xs _ _ _ o5_ (by first | omega | (simp; omega) | simp) HCB.out).mono ?_
  rintro e w13 ⟨A14_, c15_, rfl, ho16_, hb13_⟩
  have ho16_ : Own w13 (w.heap.size + 2) w13.heap.size A14_ (cutRow (xs.sum - E) xs) := ho16_.more (by simp) (Nat.le_refl _)
  have o17_ := o5_.below hb13_ (by first | omega | (simp; omega) | simp)
  have o18_ := G9_.below hb13_ (by first | omega | (simp; omega) | simp)
  have o19_ := (hb13_.cell (p := ⟨w.heap.size, 0, none⟩) (by first | omega | (simp; omega) | simp)).trans o6_
  have o20_ := (hb13_.cell (p := ⟨w.heap.size, 1, none⟩) (by first | omega | (simp; omega) | simp)).trans o7_
  have z21_ := hb13_.size
  try simp at z21_
  have B22_ := B8_.trans (hb13_.mono (by first | omega | (simp; omega) | simp))
  clear hb13_
  have o23_ := o17_.alloc (by first | omega | (simp; omega) | simp) (.cells #[.int .i64 (E - (rightsRow E xs).sum), .slice A14_ (cutRow (xs.sum - E) xs).length c15_] 28)
  have o24_ := o18_.alloc (.cells #[.int .i64 (E - (rightsRow E xs).sum), .slice A14_ (cutRow (xs.sum - E) xs).length c15_] 28)
  have o25_ := ho16_.alloc (by first | omega | (simp; omega) | simp) (.cells #[.int .i64 (E - (rightsRow E xs).sum), .slice A14_ (cutRow (xs.sum - E) xs).length c15_] 28)
  have o26_ := cell_alloc (o := (.cells #[.int .i64 (E - (rightsRow E xs).sum), .slice A14_ (cutRow (xs.sum - E) xs).length c15_] 28)) o19_ (by first | omega | (simp; omega) | simp)
  have o27_ := cell_alloc (o := (.cells #[.int .i64 (E - (rightsRow E xs).sum), .slice A14_ (cutRow (xs.sum - E) xs).length c15_] 28)) o20_ (by first | omega | (simp; omega) | simp)
  have B28_ := B22_.alloc (by first | omega | (simp; omega) | simp) (.cells #[.int .i64 (E - (rightsRow E xs).sum), .slice A14_ (cutRow (xs.sum - E) xs).length c15_] 28)
  have a29_ : (w13.alloc (.cells #[.int .i64 (E - (rightsRow E xs).sum), .slice A14_ (cutRow (xs.sum - E) xs).length c15_] 28)).cell? ⟨w13.heap.size, 0, none⟩ = some (.int .i64 (E - (rightsRow E xs).sum)) := by simp [go_sem]
  have a30_ : (w13.alloc (.cells #[.int .i64 (E - (rightsRow E xs).sum), .slice A14_ (cutRow (xs.sum - E) xs).length c15_] 28)).cell? ⟨w13.heap.size, 1, none⟩ = some (.slice A14_ (cutRow (xs.sum - E) xs).length c15_) := by simp [go_sem]
  have hx31_m : (p.length : Int) ≤ ((p.length : Int) + 1) := by omega
  have hx31_l : (p.length : Int) ≤ ((p ++ [114]).length : Int) := by omega
  have hx31_g : (0 : Int) ≤ (p.length : Int) := by omega
  have hx31_ : (S (p ++ [114])).extract 0 p.length = S p := by rw [S_front, List.take_left]
  have g42_ : w.heap.size < (w13.alloc (.cells #[.int .i64 (E - (rightsRow E xs).sum), .slice A14_ (cutRow (xs.sum - E) xs).length c15_] 28)).heap.size := (by first | omega | (simp; omega) | simp)
  have g43_ : w13.heap.size < (w13.alloc (.cells #[.int .i64 (E - (rightsRow E xs).sum), .slice A14_ (cutRow (xs.sum - E) xs).length c15_] 28)).heap.size := (by first | omega | (simp; omega) | simp)
  have g44_ : hi ≤ (w13.alloc (.cells #[.int .i64 (E - (rightsRow E xs).sum), .slice A14_ (cutRow (xs.sum - E) xs).length c15_] 28)).heap.size := (by first | omega | (simp; omega) | simp)
  have g45_ : (w.heap.size + 1) + 1 ≤ (w13.alloc (.cells #[.int .i64 (E - (rightsRow E xs).sum), .slice A14_ (cutRow (xs.sum - E) xs).length c15_] 28)).heap.size := (by first | omega | (simp; omega) | simp)
  have g46_ : w13.heap.size ≤ (w13.alloc (.cells #[.int .i64 (E - (rightsRow E xs).sum), .slice A14_ (cutRow (xs.sum - E) xs).length c15_] 28)).heap.size := (by first | omega | (simp; omega) | simp)
  have g47_ : w.heap.size ≤ (w13.alloc (.cells #[.int .i64 (E - (rightsRow E xs).sum), .slice A14_ (cutRow (xs.sum - E) xs).length c15_] 28)).heap.size := (by first | omega | (simp; omega) | simp)
  go_wp2_with fail
  refine wp_region_held_drew (S := (fun w' : World => Below w.heap.size w w' ∧ w13.heap.size + 1 ≤ w'.heap.size ∧ Ints w' (lo) (hi) A xs ∧ Grow w' (w.heap.size + 1) 0 ([] : List Int) ∧ Own w' (w.heap.size + 2) (w13.heap.size) A14_ (cutRow (xs.sum - E) xs) ∧ w'.cell? ⟨w.heap.size, 0, none⟩ = some (.int .i64 E) ∧ w'.cell? ⟨w.heap.size, 1, none⟩ = some (.slice A xs.length c) ∧ w'.cell? ⟨w13.heap.size, 0, none⟩ = some (.int .i64 (E - (rightsRow E xs).sum)) ∧ w'.cell? ⟨w13.heap.size, 1, none⟩ = some (.slice A14_ (cutRow (xs.sum - E) xs).length c15_) ∧ (w13.alloc (.cells #[.int .i64 (E - (rightsRow E xs).sum), .slice A14_ (cutRow (xs.sum - E) xs).length c15_] 28)).heap.size ≤ w'.heap.size)) (by kernel_rfl) ⟨B28_.drew, by exact (by first | omega | (simp; omega) | simp), o23_, o24_, o25_, o26_, o27_, a29_, a30_, Nat.le_refl _⟩ (fun hHeld => ?_)
  refine wpAnyH_take (i := 0) (oi := ?oi1) (v := ?vv1) ?hi1 ?hs1 ?hf1 ?ha1 ?hq1 ?hy1 hHeld ?hr1
  case hi1 => (simp only [List.getElem?_toArray, List.getElem?_cons_zero]; exact rfl)
  case hs1 => kernel_rfl
  case hf1 => kernel_rfl
  case ha1 => kernel_rfl
  case hq1 => exact fun _ _ _ h => h
  case hy1 =>
    refine Or.inl ⟨by rfl, ?_⟩
    intro w' hSw
    try dsimp only at hSw
    go_simp
    first | done | with_reducible rfl
  simp only [Act.put, List.setIfInBounds_toArray, List.set_cons_succ, List.set_cons_zero]
  refine wpAnyH_take (i := 1) (oi := ?oi2) (v := ?vv2) ?hi2 ?hs2 ?hf2 ?ha2 ?hq2 ?hy2 hHeld ?hr2
  case hi2 => (simp only [List.getElem?_toArray, List.getElem?_cons_succ, List.getElem?_cons_zero]; exact rfl)
  case hs2 => kernel_rfl
  case hf2 => kernel_rfl
  case ha2 => kernel_rfl
  case hq2 => exact fun _ _ _ h => h
  case hy2 =>
    refine Or.inl ⟨by rfl, ?_⟩
    intro w' hSw
    try dsimp only at hSw
    go_simp
    first | done | with_reducible rfl
  simp only [Act.put, List.setIfInBounds_toArray, List.set_cons_succ, List.set_cons_zero]
  refine wpAnyH_take (i := 2) (oi := ?oi3) (v := ?vv3) ?hi3 ?hs3 ?hf3 ?ha3 ?hq3 ?hy3 hHeld ?hr3
  case hi3 => (simp only [List.getElem?_toArray, List.getElem?_cons_succ, List.getElem?_cons_zero]; exact rfl)
  case hs3 => kernel_rfl
  case hf3 => kernel_rfl
  case ha3 => kernel_rfl
  case hq3 => exact fun _ _ _ h => h
  case hy3 =>
    refine Or.inl ⟨by rfl, ?_⟩
    intro w' hSw
    try dsimp only at hSw
    go_simp
    first | done | with_reducible rfl
  simp only [Act.put, List.setIfInBounds_toArray, List.set_cons_succ, List.set_cons_zero]
  refine wpAnyH_take (i := 3) (oi := ?oi4) (v := ?vv4) ?hi4 ?hs4 ?hf4 ?ha4 ?hq4 ?hy4 hHeld ?hr4
  case hi4 => (simp only [List.getElem?_toArray, List.getElem?_cons_succ, List.getElem?_cons_zero]; exact rfl)
  case hs4 => kernel_rfl
  case hf4 => kernel_rfl
  case ha4 => kernel_rfl
  case hq4 => exact fun _ _ _ h => h
  case hy4 =>
    refine Or.inl ⟨by rfl, ?_⟩
    intro w' hSw
    try dsimp only at hSw
    go_simp
    first | done | with_reducible rfl
  simp only [Act.put, List.setIfInBounds_toArray, List.set_cons_succ, List.set_cons_zero]
  refine wpAnyH_ready (rs := [4]) (by kernel_rfl) (by simp) ?_
  refine AllReadyH.cons rfl (fun K hK => ?_) AllReadyH.nil
  go_simp
  go_at_call 43
  obtain ⟨BB, zz, k35_, k36_, k37_, k38_, k39_, k40_, k41_, zw⟩ := hHeld
  (with_reducible refine (rec_ A14_ c15_ _ _ _ k37_.ints (by first | omega | (simp; omega) | simp)).mono ?_)
  rintro e w48 ⟨A32_, c33_, rfl, ho34_, hb9⟩
  have ho34_ := ho34_.more (lo' := w13.heap.size + 1) (by omega) (Nat.le_refl _)
  refine hK.out _ _ ⟨BB.trans (hb9.mono (by omega)), Nat.le_trans zz hb9.size, k35_.below hb9 (by first | omega | (simp; omega) | simp), k36_.below hb9 (by first | omega | (simp; omega) | simp), k37_.below hb9 (by first | omega | (simp; omega) | simp), (hb9.cell (p := ⟨w.heap.size, 0, none⟩) (by first | omega | (simp; omega) | simp)).trans k38_, (hb9.cell (p := ⟨w.heap.size, 1, none⟩) (by first | omega | (simp; omega) | simp)).trans k39_, (hb9.cell (p := ⟨w13.heap.size, 0, none⟩) (by first | omega | (simp; omega) | simp)).trans k40_, (hb9.cell (p := ⟨w13.heap.size, 1, none⟩) (by first | omega | (simp; omega) | simp)).trans k41_, Nat.le_trans zw hb9.size⟩ (fun hHeld => ?_)
  clear hb9 zw k41_ k40_ k39_ k38_ k37_ k36_ k35_ zz BB
  clear hK K
  try simp only [Act.put, List.setIfInBounds_toArray, List.set_cons_zero, List.set_cons_succ]
  refine wpAnyH_take (i := 5) (oi := ?oi5) (v := ?vv5) ?hi5 ?hs5 ?hf5 ?ha5 ?hq5 ?hy5 hHeld ?hr5
  case hi5 => (simp only [List.getElem?_toArray, List.getElem?_cons_succ, List.getElem?_cons_zero]; exact rfl)
  case hs5 => kernel_rfl
  case hf5 => kernel_rfl
  case ha5 => kernel_rfl
  case hq5 => exact fun _ _ _ h => h
  case hy5 =>
    refine Or.inl ⟨by rfl, ?_⟩
    intro w' hSw
    try dsimp only at hSw
    go_simp
    first | done | with_reducible rfl
  simp only [Act.put, List.setIfInBounds_toArray, List.set_cons_succ, List.set_cons_zero]
  refine wpAnyH_done (by kernel_rfl) ?_ _
  obtain ⟨BB, zz, k35_, k36_, k37_, k38_, k39_, k40_, k41_, zw⟩ := hHeld
  have k49_ := BB
  clear BB
  have k50_ := zz
  clear zz
  have k51_ := zw
  clear zw
  go_wp2_with fail
  refine (specRightsOf_yes E A c xs _ _ _ k35_ (by first | omega | (simp; omega) | simp) HCB.out).mono ?_
  rintro e w52 ⟨A53_, c54_, rfl, ho55_, hb52_⟩
  have o56_ := k35_.below hb52_ (by first | omega | (simp; omega) | simp)
  have o57_ := k36_.below hb52_ (by first | omega | (simp; omega) | simp)
  have o58_ := k37_.below hb52_ (by first | omega | (simp; omega) | simp)
  have o59_ := ho34_.below hb52_ (by first | omega | (simp; omega) | simp)
  have o60_ := (hb52_.cell (p := ⟨w.heap.size, 0, none⟩) (by first | omega | (simp; omega) | simp)).trans k38_
  have o61_ := (hb52_.cell (p := ⟨w.heap.size, 1, none⟩) (by first | omega | (simp; omega) | simp)).trans k39_
  have o62_ := (hb52_.cell (p := ⟨w13.heap.size, 0, none⟩) (by first | omega | (simp; omega) | simp)).trans k40_
  have o63_ := (hb52_.cell (p := ⟨w13.heap.size, 1, none⟩) (by first | omega | (simp; omega) | simp)).trans k41_
  have z64_ := hb52_.size
  have B65_ := k49_.trans (hb52_.mono (by first | omega | (simp; omega) | simp))
  clear hb52_
  go_wp2
  go_loopw [17, 6] (fun i v wr => ∃ k : Nat, ∃ g cg : Nat, i = .int .i64 k ∧ v = .slice (some ⟨g, 0, none⟩) k cg ∧ (k ≤ Y.length) ∧ (g = (w.heap.size + 1) ∨ w52.heap.size ≤ g) ∧ w.heap.size + 1 ≤ g ∧ Grow wr g cg (fnRow k (fun i => Y.getD i 0 + 48 * (rightsRow E xs).getD i 0)) ∧ Below w.heap.size w wr ∧ w52.heap.size ≤ wr.heap.size ∧ Ints wr (lo) (hi) A xs ∧ Own wr (w.heap.size + 2) (w13.heap.size) A14_ (cutRow (xs.sum - E) xs) ∧ Own wr (w13.heap.size + 1) (w48.heap.size) A32_ Y ∧ Own wr (w48.heap.size) (w52.heap.size) A53_ (rightsRow E xs) ∧ wr.cell? ⟨w.heap.size, 0, none⟩ = some (.int .i64 E) ∧ wr.cell? ⟨w.heap.size, 1, none⟩ = some (.slice A xs.length c) ∧ wr.cell? ⟨w13.heap.size, 0, none⟩ = some (.int .i64 (E - (rightsRow E xs).sum)) ∧ wr.cell? ⟨w13.heap.size, 1, none⟩ = some (.slice A14_ (cutRow (xs.sum - E) xs).length c15_)) (fun i v _ => Y.length - (intOf i).toNat)
  case atStart => exact ⟨0, (w.heap.size + 1), 0, rfl, (slice_n (by first | rfl | omega | simp)), by omega, Or.inl rfl, (by omega), (by show Grow _ _ _ []; exact o57_), B65_, (by first | omega | (simp; omega) | simp), o56_, o58_, o59_, ho55_, o60_, o61_, o62_, o63_⟩
  case round =>
    obtain ⟨k, g, cg, rfl, rfl, hk, hga, glb, G67_, k68_, k69_, k70_, k71_, k72_, k73_, k74_, k75_, k76_, k77_⟩ := hrel
    obtain ⟨w66, rfl⟩ : ∃ x, x = wr := ⟨_, rfl⟩
    have HL78_ : Hid ((fnRow k (fun i => Y.getD i 0 + 48 * (rightsRow E xs).getD i 0)).length = k) := fnRow_length _ _
    have l79_ := G67_.lt
    by_cases hlt3 : k < Y.length
    · obtain ⟨b80_, f81_, rfl, b80_l, b80_h, -⟩ := k72_.ints (by have e := HYL.out; omega)
      have c82_ : w66.cell? ⟨b80_, f81_ + k, none⟩ = some (.int .i64 (Y.getD k 0)) := k72_.ints.at2 k (by first | omega | (simp; omega) | simp)
      have c82_i : (k : Int) < (Y.length : Int) := by omega
      have c82_j : (0 : Int) ≤ (k : Int) := by omega
      have v83_g := HYR.out k
      obtain ⟨v83_, hv83_⟩ : ∃ v, v = Y.getD k 0 := ⟨_, rfl⟩
      rw [← hv83_] at c82_ v83_g
      have Hv83_ := Lib.hid hv83_
      clear hv83_
      obtain ⟨v83_g1, v83_g2⟩ := v83_g
      obtain ⟨b84_, f85_, rfl, b84_l, b84_h, -⟩ := k73_.ints (by rw [rightsRow_length]; omega)
      have c86_ : w66.cell? ⟨b84_, f85_ + k, none⟩ = some (.int .i64 ((rightsRow E xs).getD k 0)) := k73_.ints.at2 k (by first | omega | (simp; omega) | simp)
      have c86_i : (k : Int) < ((rightsRow E xs).length : Int) := by omega
      have c86_j : (0 : Int) ≤ (k : Int) := by omega
      have v87_g := rights_rg' HCB.out k
      obtain ⟨v87_, hv87_⟩ : ∃ v, v = (rightsRow E xs).getD k 0 := ⟨_, rfl⟩
      rw [← hv87_] at c86_ v87_g
      have Hv87_ := Lib.hid hv87_
      clear hv87_
      obtain ⟨v87_g1, v87_g2⟩ := v87_g
      have HL90_ : Hid (([(v83_ + (48 * v87_))] : List Int).length = 1) := rfl
      have HL94_ : Hid (((fnRow k (fun i => Y.getD i 0 + 48 * (rightsRow E xs).getD i 0)) ++ ([(v83_ + (48 * v87_))] : List Int)).length = k + 1) := by show _ = _; rw [List.length_append, HL78_.out, HL90_.out]
      have hw95_ : IntKind.i64.wrap (48 * v87_) = (48 * v87_) := IntWalk.i64_in _ (by omega)
      have hw96_ : IntKind.i64.wrap (v83_ + (48 * v87_)) = (v83_ + (48 * v87_)) := IntWalk.i64_in _ (by omega)
      have g107_ : w.heap.size < w66.heap.size := (by first | omega | (simp; omega) | simp)
      have g108_ : w13.heap.size < w66.heap.size := (by first | omega | (simp; omega) | simp)
      have g109_ : hi ≤ w66.heap.size := (by first | omega | (simp; omega) | simp)
      have g110_ : w13.heap.size ≤ w66.heap.size := (by first | omega | (simp; omega) | simp)
      have g111_ : w48.heap.size ≤ w66.heap.size := (by first | omega | (simp; omega) | simp)
      have g112_ : w52.heap.size ≤ w66.heap.size := (by first | omega | (simp; omega) | simp)
      have g113_ : g + 1 ≤ w66.heap.size := (by first | omega | (simp; omega) | simp)
      have g114_ : b80_ < w66.heap.size := (by first | omega | (simp; omega) | simp)
      have g115_ : b84_ < w66.heap.size := (by first | omega | (simp; omega) | simp)
      have g116_ : w.heap.size ≤ w66.heap.size := (by first | omega | (simp; omega) | simp)
      go_wp2_with fail
      refine wp_region_held_drew (S := (fun w' : World => Below w.heap.size w w' ∧ w66.heap.size ≤ w'.heap.size ∧ Ints w' (lo) (hi) A xs ∧ Own w' (w.heap.size + 2) (w13.heap.size) A14_ (cutRow (xs.sum - E) xs) ∧ Own w' (w13.heap.size + 1) (w48.heap.size) (some ⟨b80_, f81_, none⟩) Y ∧ Own w' (w48.heap.size) (w52.heap.size) (some ⟨b84_, f85_, none⟩) (rightsRow E xs) ∧ w'.cell? ⟨w.heap.size, 0, none⟩ = some (.int .i64 E) ∧ w'.cell? ⟨w.heap.size, 1, none⟩ = some (.slice A xs.length c) ∧ w'.cell? ⟨w13.heap.size, 0, none⟩ = some (.int .i64 (E - (rightsRow E xs).sum)) ∧ w'.cell? ⟨w13.heap.size, 1, none⟩ = some (.slice A14_ (cutRow (xs.sum - E) xs).length c15_) ∧ w'.cell? ⟨b80_, f81_ + k, none⟩ = some (.int .i64 v83_) ∧ w'.cell? ⟨b84_, f85_ + k, none⟩ = some (.int .i64 v87_) ∧ w66.heap.size ≤ w'.heap.size)) (by kernel_rfl) ⟨k68_.drew, by exact (by first | omega | (simp; omega) | simp), k70_, k71_, k72_, k73_, k74_, k75_, k76_, k77_, c82_, c86_, Nat.le_refl _⟩ (fun hHeld => ?_)
      have o117_ : Grow w66.drew g cg (fnRow k (fun i => Y.getD i 0 + 48 * (rightsRow E xs).getD i 0)) := G67_
      refine wpAnyH_take (i := 0) (oi := ?oi6) (v := ?vv6) ?hi6 ?hs6 ?hf6 ?ha6 ?hq6 ?hy6 hHeld ?hr6
      case hi6 => (simp only [List.getElem?_toArray, List.getElem?_cons_zero]; exact rfl)
      case hs6 => kernel_rfl
      case hf6 => kernel_rfl
      case ha6 => kernel_rfl
      case hq6 => exact fun _ _ _ h => h
      case hy6 =>
        refine Or.inl ⟨by rfl, ?_⟩
        intro w' hSw
        try dsimp only at hSw
        go_simp
        first | done | with_reducible rfl
      simp only [Act.put, List.setIfInBounds_toArray, List.set_cons_succ, List.set_cons_zero]
      refine wpAnyH_take (i := 1) (oi := ?oi7) (v := ?vv7) ?hi7 ?hs7 ?hf7 ?ha7 ?hq7 ?hy7 hHeld ?hr7
      case hi7 => (simp only [List.getElem?_toArray, List.getElem?_cons_succ, List.getElem?_cons_zero]; exact rfl)
      case hs7 => kernel_rfl
      case hf7 => kernel_rfl
      case ha7 => kernel_rfl
      case hq7 => exact fun _ _ _ h => h
      case hy7 =>
        refine Or.inl ⟨by rfl, ?_⟩
        intro w' hSw
        try dsimp only at hSw
        go_simp
        first | done | with_reducible rfl
      simp only [Act.put, List.setIfInBounds_toArray, List.set_cons_succ, List.set_cons_zero]
      refine wpAnyH_take (i := 2) (oi := ?oi8) (v := ?vv8) ?hi8 ?hs8 ?hf8 ?ha8 ?hq8 ?hy8 hHeld ?hr8
      case hi8 => (simp only [List.getElem?_toArray, List.getElem?_cons_succ, List.getElem?_cons_zero]; exact rfl)
      case hs8 => kernel_rfl
      case hf8 => kernel_rfl
      case ha8 => kernel_rfl
      case hq8 => exact fun _ _ _ h => h
      case hy8 =>
        refine Or.inl ⟨by rfl, ?_⟩
        intro w' hSw
        try dsimp only at hSw
        go_simp
        first | done | with_reducible rfl
      simp only [Act.put, List.setIfInBounds_toArray, List.set_cons_succ, List.set_cons_zero]
      refine wpAnyH_take (i := 3) (oi := ?oi9) (v := ?vv9) ?hi9 ?hs9 ?hf9 ?ha9 ?hq9 ?hy9 hHeld ?hr9
      case hi9 => (simp only [List.getElem?_toArray, List.getElem?_cons_succ, List.getElem?_cons_zero]; exact rfl)
      case hs9 => kernel_rfl
      case hf9 => kernel_rfl
      case ha9 => kernel_rfl
      case hq9 => exact fun _ _ _ h => h
      case hy9 =>
        refine Or.inl ⟨by rfl, ?_⟩
        intro w' hSw
        try dsimp only at hSw
        go_simp
        first | done | with_reducible rfl
      simp only [Act.put, List.setIfInBounds_toArray, List.set_cons_succ, List.set_cons_zero]
      refine wpAnyH_take (i := 4) (oi := ?oi10) (v := ?vv10) ?hi10 ?hs10 ?hf10 ?ha10 ?hq10 ?hy10 hHeld ?hr10
      case hi10 => (simp only [List.getElem?_toArray, List.getElem?_cons_succ, List.getElem?_cons_zero]; exact rfl)
      case hs10 => kernel_rfl
      case hf10 => kernel_rfl
      case ha10 => kernel_rfl
      case hq10 => exact fun _ _ _ h => h
      case hy10 =>
        refine Or.inl ⟨by rfl, ?_⟩
        intro w' hSw
        try dsimp only at hSw
        go_simp
        first | done | with_reducible rfl
      simp only [Act.put, List.setIfInBounds_toArray, List.set_cons_succ, List.set_cons_zero]
      refine wpAnyH_take (i := 5) (oi := ?oi11) (v := ?vv11) ?hi11 ?hs11 ?hf11 ?ha11 ?hq11 ?hy11 hHeld ?hr11
      case hi11 => (simp only [List.getElem?_toArray, List.getElem?_cons_succ, List.getElem?_cons_zero]; exact rfl)
      case hs11 => kernel_rfl
      case hf11 => kernel_rfl
      case ha11 => kernel_rfl
      case hq11 => exact fun _ _ _ h => h
      case hy11 =>
        refine Or.inl ⟨by rfl, ?_⟩
        intro w' hSw
        try dsimp only at hSw
        go_simp
        first | done | with_reducible rfl
      simp only [Act.put, List.setIfInBounds_toArray, List.set_cons_succ, List.set_cons_zero]
      refine wpAnyH_take (i := 6) (oi := ?oi12) (v := ?vv12) ?hi12 ?hs12 ?hf12 ?ha12 ?hq12 ?hy12 hHeld ?hr12
      case hi12 => (simp only [List.getElem?_toArray, List.getElem?_cons_succ, List.getElem?_cons_zero]; exact rfl)
      case hs12 => kernel_rfl
      case hf12 => kernel_rfl
      case ha12 => kernel_rfl
      case hq12 => exact fun _ _ _ h => h
      case hy12 =>
        refine Or.inl ⟨by rfl, ?_⟩
        intro w' hSw
        try dsimp only at hSw
        go_simp
        first | done | with_reducible rfl
      simp only [Act.put, List.setIfInBounds_toArray, List.set_cons_succ, List.set_cons_zero]
      refine wpAnyH_take (i := 7) (oi := ?oi13) (v := ?vv13) ?hi13 ?hs13 ?hf13 ?ha13 ?hq13 ?hy13 hHeld ?hr13
      case hi13 => (simp only [List.getElem?_toArray, List.getElem?_cons_succ, List.getElem?_cons_zero]; exact rfl)
      case hs13 => kernel_rfl
      case hf13 => kernel_rfl
      case ha13 => kernel_rfl
      case hq13 => exact fun _ _ _ h => h
      case hy13 =>
        refine Or.inl ⟨by rfl, ?_⟩
        intro w' hSw
        try dsimp only at hSw
        go_simp
        first | done | with_reducible rfl
      simp only [Act.put, List.setIfInBounds_toArray, List.set_cons_succ, List.set_cons_zero]
      refine wpAnyH_take (i := 8) (oi := ?oi14) (v := ?vv14) ?hi14 ?hs14 ?hf14 ?ha14 ?hq14 ?hy14 hHeld ?hr14
      case hi14 => (simp only [List.getElem?_toArray, List.getElem?_cons_succ, List.getElem?_cons_zero]; exact rfl)
      case hs14 => kernel_rfl
      case hf14 => kernel_rfl
      case ha14 => kernel_rfl
      case hq14 => exact fun _ _ _ h => h
      case hy14 =>
        refine Or.inl ⟨by rfl, ?_⟩
        intro w' hSw
        try dsimp only at hSw
        go_simp
        first | done | with_reducible rfl
      simp only [Act.put, List.setIfInBounds_toArray, List.set_cons_succ, List.set_cons_zero]
      refine wpAnyH_take (i := 9) (oi := ?oi15) (v := ?vv15) ?hi15 ?hs15 ?hf15 ?ha15 ?hq15 ?hy15 hHeld ?hr15
      case hi15 => (simp only [List.getElem?_toArray, List.getElem?_cons_succ, List.getElem?_cons_zero]; exact rfl)
      case hs15 => kernel_rfl
      case hf15 => kernel_rfl
      case ha15 => kernel_rfl
      case hq15 => exact fun _ _ _ h => h
      case hy15 =>
        refine Or.inl ⟨by rfl, ?_⟩
        intro w' hSw
        try dsimp only at hSw
        go_simp
        first | done | with_reducible rfl
      simp only [Act.put, List.setIfInBounds_toArray, List.set_cons_succ, List.set_cons_zero]
      refine wpAnyH_take (i := 10) (oi := ?oi16) (v := ?vv16) ?hi16 ?hs16 ?hf16 ?ha16 ?hq16 ?hy16 hHeld ?hr16
      case hi16 => (simp only [List.getElem?_toArray, List.getElem?_cons_succ, List.getElem?_cons_zero]; exact rfl)
      case hs16 => kernel_rfl
      case hf16 => kernel_rfl
      case ha16 => kernel_rfl
      case hq16 => exact fun _ _ _ h => h
      case hy16 =>
        refine Or.inl ⟨by rfl, ?_⟩
        intro w' hSw
        try dsimp only at hSw
        go_simp
        first | done | with_reducible rfl
      simp only [Act.put, List.setIfInBounds_toArray, List.set_cons_succ, List.set_cons_zero]
      refine wpAnyH_ready (rs := [11]) (by kernel_rfl) (by simp) ?_
      refine AllReadyH.cons rfl (fun K hK => ?_) AllReadyH.nil
      obtain ⟨BB, zz, k97_, k98_, k99_, k100_, k101_, k102_, k103_, k104_, q105_, q106_, zw⟩ := hHeld
      go_simp
      have G89_ : Grow ((w66.alloc (.cells #[.int .i64 (v83_ + (48 * v87_))] 3)).drew) (w66.heap.size) 1 ([(v83_ + (48 * v87_))] : List Int) := grow_lit w66.drew ([(v83_ + (48 * v87_))] : List Int) (by simp)
      have hb9 : Below w66.drew.heap.size w66.drew ((w66.alloc (.cells #[.int .i64 (v83_ + (48 * v87_))] 3)).drew) := (Below.refl _ w66.drew).alloc (Nat.le_refl _) (.cells #[.int .i64 (v83_ + (48 * v87_))] 3)
      obtain ⟨g88_, hg88_⟩ : ∃ g, w66.heap.size = g := ⟨_, rfl⟩
      rw [hg88_] at G89_
      simp only [hg88_]
      have lg88_ : w.heap.size ≤ g88_ := by omega
      have leg88_ : g88_ ≤ w66.heap.size := by omega
      have geg88_ : w66.heap.size ≤ g88_ := by omega
      obtain ⟨w118, hw118⟩ : ∃ x, x = ((w66.alloc (.cells #[.int .i64 (v83_ + (48 * v87_))] 3)).drew) := ⟨_, rfl⟩
      rw [← hw118] at G89_ hb9
      rw [← hw118]
      clear hw118 hg88_
      have l119_ := G89_.lt
      have o120_ := o117_.below hb9 (by first | omega | (simp; omega) | simp)
      refine hK.out _ _ ⟨BB.trans (hb9.mono (by omega)), Nat.le_trans zz hb9.size, k97_.below hb9 (by first | omega | (simp; omega) | simp), k98_.below hb9 (by first | omega | (simp; omega) | simp), k99_.below hb9 (by first | omega | (simp; omega) | simp), k100_.below hb9 (by first | omega | (simp; omega) | simp), (hb9.cell (p := ⟨w.heap.size, 0, none⟩) (by first | omega | (simp; omega) | simp)).trans k101_, (hb9.cell (p := ⟨w.heap.size, 1, none⟩) (by first | omega | (simp; omega) | simp)).trans k102_, (hb9.cell (p := ⟨w13.heap.size, 0, none⟩) (by first | omega | (simp; omega) | simp)).trans k103_, (hb9.cell (p := ⟨w13.heap.size, 1, none⟩) (by first | omega | (simp; omega) | simp)).trans k104_, (hb9.cell (by show b80_ < _; omega)).trans q105_, (hb9.cell (by show b84_ < _; omega)).trans q106_, Nat.le_trans zw hb9.size⟩ (fun hHeld => ?_)
      clear hb9 zw q106_ q105_ k104_ k103_ k102_ k101_ k100_ k99_ k98_ k97_ zz BB
      clear hK K
      try simp only [Act.put, List.setIfInBounds_toArray, List.set_cons_zero, List.set_cons_succ]
      refine wpAnyH_ready (rs := [12]) (by kernel_rfl) (by simp) ?_
      refine AllReadyH.cons (o := ?ox17) ?hx17 (fun K hK => ?_) AllReadyH.nil
      case hx17 => (simp only [List.getElem?_toArray, List.getElem?_cons_succ, List.getElem?_cons_zero]; exact rfl)
      obtain ⟨BB, zz, k97_, k98_, k99_, k100_, k101_, k102_, k103_, k104_, q105_, q106_, zw⟩ := hHeld
      refine step_gr (by rfl) _ _ (by rfl) (xs := (fnRow k (fun i => Y.getD i 0 + 48 * (rightsRow E xs).getD i 0))) (ys := ([(v83_ + (48 * v87_))] : List Int)) (by rfl) (by have e := HL78_.out; omega) o120_ (by rfl) (by have e := HL90_.out; omega) (G89_.ints.read) (by omega) ?_
      intro g91_ c92_ w121 G93_ hC122_ hg91_
      have lg91_ : w.heap.size ≤ g91_ := by omega
      have l123_ := G93_.lt
      have G89_ := G89_.chg hC122_ (by omega)
      refine hK.out _ _ ⟨BB.trans (hC122_.below (by omega) (by omega)), Nat.le_trans zz hC122_.size, k97_.chg hC122_ (by first | omega | (simp; omega) | simp) (by omega), k98_.chg hC122_ (by first | omega | (simp; omega) | simp) (by omega), k99_.chg hC122_ (by first | omega | (simp; omega) | simp) (by omega), k100_.chg hC122_ (by first | omega | (simp; omega) | simp) (by omega), (hC122_.cell (p := ⟨w.heap.size, 0, none⟩) (by first | omega | (simp; omega) | simp) (by first | omega | (simp; omega) | simp)).trans k101_, (hC122_.cell (p := ⟨w.heap.size, 1, none⟩) (by first | omega | (simp; omega) | simp) (by first | omega | (simp; omega) | simp)).trans k102_, (hC122_.cell (p := ⟨w13.heap.size, 0, none⟩) (by first | omega | (simp; omega) | simp) (by first | omega | (simp; omega) | simp)).trans k103_, (hC122_.cell (p := ⟨w13.heap.size, 1, none⟩) (by first | omega | (simp; omega) | simp) (by first | omega | (simp; omega) | simp)).trans k104_, (hC122_.cell (by show b80_ < _; omega) (by first | omega | (simp; omega) | simp)).trans q105_, (hC122_.cell (by show b84_ < _; omega) (by first | omega | (simp; omega) | simp)).trans q106_, Nat.le_trans zw hC122_.size⟩ (fun hHeld => ?_)
      clear hC122_ zw q106_ q105_ k104_ k103_ k102_ k101_ k100_ k99_ k98_ k97_ zz BB
      clear hK K
      try simp only [Act.put, List.setIfInBounds_toArray, List.set_cons_zero, List.set_cons_succ]
      refine wpAnyH_take (i := 13) (oi := ?oi18) (v := ?vv18) ?hi18 ?hs18 ?hf18 ?ha18 ?hq18 ?hy18 hHeld ?hr18
      case hi18 => (simp only [List.getElem?_toArray, List.getElem?_cons_succ, List.getElem?_cons_zero]; exact rfl)
      case hs18 => kernel_rfl
      case hf18 => kernel_rfl
      case ha18 => kernel_rfl
      case hq18 => exact fun _ _ _ h => h
      case hy18 =>
        refine Or.inl ⟨by rfl, ?_⟩
        intro w' hSw
        try dsimp only at hSw
        go_simp
        first | done | with_reducible rfl
      simp only [Act.put, List.setIfInBounds_toArray, List.set_cons_succ, List.set_cons_zero]
      refine wpAnyH_done (by kernel_rfl) ?_ _
      obtain ⟨BB, zz, k97_, k98_, k99_, k100_, k101_, k102_, k103_, k104_, q105_, q106_, zw⟩ := hHeld
      clear hw95_ hw96_
      have k124_ := BB
      clear BB
      have k125_ := zz
      clear zz
      have k126_ := zw
      clear zw
      go_wp2
      go_roundw
      case rel => exact ⟨k + 1, g91_, c92_, by go_num, (slice_n (by first | rfl | omega | simp)), by omega, by omega, (by omega), (by rw [fnRow_succ, ← Hv87_.out, ← Hv83_.out]; exact G93_), k124_, (by first | omega | (simp; omega) | simp), k97_, k98_, k99_, k100_, k101_, k102_, k103_, k104_⟩
      case measure => simp [intOf] <;> omega
    · obtain rfl : k = Y.length := by omega
      have hrev : (p ++ [114]).reverse = 114 :: p.reverse := by simp
      have hfin : ruleAw (p ++ [114]).reverse E xs = fnRow Y.length (fun i => Y.getD i 0 + 48 * (rightsRow E xs).getD i 0) := by rw [hrev, aw_r]; unfold rE rX; rw [HYD.out, plus_row]
      have HFIN := Lib.hid hfin
      clear hfin hrev
      go_wp2
      go_ret
      rw [HFIN.out]
      (refine retInts_grow G67_ (by omega) ?_ k68_; rw [fnRow_length])

theorem spec_l8Awards_any : ∀ (m : Nat) (l : List UInt8), l.length = m → l.length ≤ 8 → okR l.reverse = true → ∀ (E : Int) (A : Option Addr) (c : Nat) (xs : List Int) (w : World) (lo hi : Nat), Ints w lo hi A xs → hi ≤ w.heap.size → caseOkB E xs = true →
    Calls Try.prog 43 #[.agg #[.int .i64 E, .slice A xs.length c], .string (S l)] w (RetInts w (ruleAw l.reverse E xs)) := by
  intro m
  induction m with
  | zero => intro l hl _ hok; rw [List.eq_nil_of_length_eq_zero hl] at hok; cases hok
  | succ m ih =>
    intro l hl h8 hok E A c xs w lo hi h hh hc
    have hne : l ≠ [] := fun e => by rw [e] at hl; simp at hl
    obtain ⟨p, x, rfl⟩ : ∃ p x, l = p ++ [x] := ⟨l.dropLast, l.getLast hne, (List.dropLast_concat_getLast hne).symm⟩
    have hp : p.length = m := by simpa using hl
    have hp7 : p.length ≤ 7 := by simp at h8; omega
    rw [List.reverse_append] at hok
    cases hr : p.reverse with
    | nil =>
      rw [hr] at hok
      rcases firstL_iff.1 (show firstL x = true from hok) with rfl | rfl | rfl | rfl
      · exact spec_l8Awards_e E A c xs p w lo hi h hh hp7 hc
      · exact spec_l8Awards_l E A c xs p w lo hi h hh hp7 hc
      · exact spec_l8Awards_h E A c xs p w lo hi h hh hp7 hc
      · exact spec_l8Awards_a E A c xs p w lo hi h hh hp7 hc
    | cons y r =>
      rw [hr] at hok
      have h' : turnL x = true ∧ okR (y :: r) = true := by simpa [okR] using hok
      have hokp : okR p.reverse = true := by rw [hr]; exact h'.2
      have ih := ih p hp (by omega) hokp
      rcases turnL_iff.1 h'.1 with rfl | rfl | rfl
      · exact spec_l8Awards_d E A c xs p w lo hi h hh hp7 hc hokp ih
      · exact spec_l8Awards_c E A c xs p w lo hi h hh hp7 hc hokp ih
      · exact spec_l8Awards_r E A c xs p w lo hi h hh hp7 hc hokp ih

set_option maxRecDepth 10000 in
set_option maxHeartbeats 1000000 in
theorem specRuleAwards_yy (E : Int) (A : Option Addr) (c : Nat) (xs : List Int) (l : List UInt8) (w : World) (lo hi : Nat) (h : Ints w lo hi A xs) (hh : hi ≤ w.heap.size) (hl : xs.length ≤ 1152921504606846976) (hll : l.length ≤ 1152921504606846976) (hok : caseOkB E xs = true) (hrb : ruleB l = true) :
    Calls Try.prog 16 #[.agg #[.int .i64 E, .slice A xs.length c], .string (S l)] w (RetInts w (ruleRow E xs l)) := by
  have hS1 := S_size
  have hS2 : ∀ (l : List UInt8) (k : Nat) (h : k < (S l).size), (S l)[k]'h = l[k]'(by rw [S_size] at h; exact h) := fun _ _ h => S_at2 h
  have HCB := Lib.hid hok
  have HRB := Lib.hid hrb
  clear hrb
  clear hok
  go_enter Try.func16, Try.ntmps16
  have o1_ := h.alloc (by first | omega | (simp; omega) | simp) (.cells #[.int .i64 E, .slice A xs.length c] 28)
  have B2_ := (Below.refl w.heap.size w).alloc (Nat.le_refl _) (.cells #[.int .i64 E, .slice A xs.length c] 28)
  have a3_ : (w.alloc (.cells #[.int .i64 E, .slice A xs.length c] 28)).cell? ⟨w.heap.size, 0, none⟩ = some (.int .i64 E) := by simp [go_sem]
  have a4_ : (w.alloc (.cells #[.int .i64 E, .slice A xs.length c] 28)).cell? ⟨w.heap.size, 1, none⟩ = some (.slice A xs.length c) := by simp [go_sem]
  go_wp2_with fail
  refine (specCaseOk_any E A c xs _ _ _ o1_ (by first | omega | (simp; omega) | simp) hl).mono ?_
  rintro e w5 ⟨he, hb5_⟩
  rw [HCB.out] at he
  subst he
  have o6_ := o1_.below hb5_ (by first | omega | (simp; omega) | simp)
  have o7_ := (hb5_.cell (p := ⟨w.heap.size, 0, none⟩) (by first | omega | (simp; omega) | simp)).trans a3_
  have o8_ := (hb5_.cell (p := ⟨w.heap.size, 1, none⟩) (by first | omega | (simp; omega) | simp)).trans a4_
  have z9_ := hb5_.size
  try simp at z9_
  have B10_ := B2_.trans (hb5_.mono (by first | omega | (simp; omega) | simp))
  clear hb5_
  go_wp2_with fail
  refine (specRuleOk_any l _ hll).mono ?_
  rintro e w' ⟨he, rfl⟩
  rw [HRB.out] at he
  subst he
  go_wp2_with fail
  refine (spec_l8Awards_any _ l rfl (rule_letters HRB.out).2.2 (ruleB_okR HRB.out) E A c xs _ _ _ o6_ (by first | omega | (simp; omega) | simp) HCB.out).mono ?_
  rintro e w11 ⟨A12_, c13_, rfl, ho14_, hb11_⟩
  have o15_ := o6_.below hb11_ (by first | omega | (simp; omega) | simp)
  have o16_ := (hb11_.cell (p := ⟨w.heap.size, 0, none⟩) (by first | omega | (simp; omega) | simp)).trans o7_
  have o17_ := (hb11_.cell (p := ⟨w.heap.size, 1, none⟩) (by first | omega | (simp; omega) | simp)).trans o8_
  have z18_ := hb11_.size
  have B19_ := B10_.trans (hb11_.mono (by first | omega | (simp; omega) | simp))
  clear hb11_
  have hfin : ruleRow E xs l = ruleAw l.reverse E xs := if_pos ⟨HCB.out, HRB.out⟩
  have HFIN := Lib.hid hfin
  clear hfin
  go_wp2
  go_ret
  rw [HFIN.out]
  exact ⟨A12_, c13_, rfl, ho14_.more (by omega) (Nat.le_refl _), B19_⟩

set_option maxRecDepth 10000 in
set_option maxHeartbeats 1000000 in
theorem specRuleAwards_yn (E : Int) (A : Option Addr) (c : Nat) (xs : List Int) (l : List UInt8) (w : World) (lo hi : Nat) (h : Ints w lo hi A xs) (hh : hi ≤ w.heap.size) (hl : xs.length ≤ 1152921504606846976) (hll : l.length ≤ 1152921504606846976) (hok : caseOkB E xs = true) (hrb : ruleB l = false) :
    Calls Try.prog 16 #[.agg #[.int .i64 E, .slice A xs.length c], .string (S l)] w (RetInts w (ruleRow E xs l)) := by
  have hS1 := S_size
  have hS2 : ∀ (l : List UInt8) (k : Nat) (h : k < (S l).size), (S l)[k]'h = l[k]'(by rw [S_size] at h; exact h) := fun _ _ h => S_at2 h
  have HCB := Lib.hid hok
  have HRB := Lib.hid hrb
  clear hrb
  clear hok
  go_enter Try.func16, Try.ntmps16
  have o1_ := h.alloc (by first | omega | (simp; omega) | simp) (.cells #[.int .i64 E, .slice A xs.length c] 28)
  have B2_ := (Below.refl w.heap.size w).alloc (Nat.le_refl _) (.cells #[.int .i64 E, .slice A xs.length c] 28)
  have a3_ : (w.alloc (.cells #[.int .i64 E, .slice A xs.length c] 28)).cell? ⟨w.heap.size, 0, none⟩ = some (.int .i64 E) := by simp [go_sem]
  have a4_ : (w.alloc (.cells #[.int .i64 E, .slice A xs.length c] 28)).cell? ⟨w.heap.size, 1, none⟩ = some (.slice A xs.length c) := by simp [go_sem]
  go_wp2_with fail
  refine (specCaseOk_any E A c xs _ _ _ o1_ (by first | omega | (simp; omega) | simp) hl).mono ?_
  rintro e w5 ⟨he, hb5_⟩
  rw [HCB.out] at he
  subst he
  have o6_ := o1_.below hb5_ (by first | omega | (simp; omega) | simp)
  have o7_ := (hb5_.cell (p := ⟨w.heap.size, 0, none⟩) (by first | omega | (simp; omega) | simp)).trans a3_
  have o8_ := (hb5_.cell (p := ⟨w.heap.size, 1, none⟩) (by first | omega | (simp; omega) | simp)).trans a4_
  have z9_ := hb5_.size
  try simp at z9_
  have B10_ := B2_.trans (hb5_.mono (by first | omega | (simp; omega) | simp))
  clear hb5_
  go_wp2_with fail
  refine (specRuleOk_any l _ hll).mono ?_
  rintro e w' ⟨he, rfl⟩
  rw [HRB.out] at he
  subst he
  have o11_ := o6_.alloc (by first | omega | (simp; omega) | simp) (.cells #[] 3)
  have o12_ := cell_alloc (o := (.cells #[] 3)) o7_ (by first | omega | (simp; omega) | simp)
  have o13_ := cell_alloc (o := (.cells #[] 3)) o8_ (by first | omega | (simp; omega) | simp)
  have B14_ := B10_.alloc (by first | omega | (simp; omega) | simp) (.cells #[] 3)
  have G15_ : Grow (w5.alloc (.cells #[] 3)) (w5.heap.size) 0 ([] : List Int) := by have e := grow_lit w5 ([] : List Int) (by simp); (try simp only [hsz] at e); exact e
  have l16_ := G15_.lt
  have HL17_ : Hid (([] : List Int).length = 0) := rfl
  have hfin : ruleRow E xs l = [] := if_neg (fun q => by have e := q.2; rw [HRB.out] at e; cases e)
  go_wp2
  go_ret
  rw [hfin]
  (refine retInts_grow G15_ (by omega) rfl B14_)

set_option maxRecDepth 10000 in
set_option maxHeartbeats 1000000 in
theorem specRuleAwards_nn (E : Int) (A : Option Addr) (c : Nat) (xs : List Int) (l : List UInt8) (w : World) (lo hi : Nat) (h : Ints w lo hi A xs) (hh : hi ≤ w.heap.size) (hl : xs.length ≤ 1152921504606846976) (hll : l.length ≤ 1152921504606846976) (hok : caseOkB E xs = false) :
    Calls Try.prog 16 #[.agg #[.int .i64 E, .slice A xs.length c], .string (S l)] w (RetInts w (ruleRow E xs l)) := by
  have hS1 := S_size
  have hS2 : ∀ (l : List UInt8) (k : Nat) (h : k < (S l).size), (S l)[k]'h = l[k]'(by rw [S_size] at h; exact h) := fun _ _ h => S_at2 h
  have HCB := Lib.hid hok
  have hll2 := hll
  clear hok
  go_enter Try.func16, Try.ntmps16
  have o1_ := h.alloc (by first | omega | (simp; omega) | simp) (.cells #[.int .i64 E, .slice A xs.length c] 28)
  have B2_ := (Below.refl w.heap.size w).alloc (Nat.le_refl _) (.cells #[.int .i64 E, .slice A xs.length c] 28)
  have a3_ : (w.alloc (.cells #[.int .i64 E, .slice A xs.length c] 28)).cell? ⟨w.heap.size, 0, none⟩ = some (.int .i64 E) := by simp [go_sem]
  have a4_ : (w.alloc (.cells #[.int .i64 E, .slice A xs.length c] 28)).cell? ⟨w.heap.size, 1, none⟩ = some (.slice A xs.length c) := by simp [go_sem]
  go_wp2_with fail
  refine (specCaseOk_any E A c xs _ _ _ o1_ (by first | omega | (simp; omega) | simp) hl).mono ?_
  rintro e w5 ⟨he, hb5_⟩
  rw [HCB.out] at he
  subst he
  have o6_ := o1_.below hb5_ (by first | omega | (simp; omega) | simp)
  have o7_ := (hb5_.cell (p := ⟨w.heap.size, 0, none⟩) (by first | omega | (simp; omega) | simp)).trans a3_
  have o8_ := (hb5_.cell (p := ⟨w.heap.size, 1, none⟩) (by first | omega | (simp; omega) | simp)).trans a4_
  have z9_ := hb5_.size
  try simp at z9_
  have B10_ := B2_.trans (hb5_.mono (by first | omega | (simp; omega) | simp))
  clear hb5_
  have o11_ := o6_.alloc (by first | omega | (simp; omega) | simp) (.cells #[] 3)
  have o12_ := cell_alloc (o := (.cells #[] 3)) o7_ (by first | omega | (simp; omega) | simp)
  have o13_ := cell_alloc (o := (.cells #[] 3)) o8_ (by first | omega | (simp; omega) | simp)
  have B14_ := B10_.alloc (by first | omega | (simp; omega) | simp) (.cells #[] 3)
  have G15_ : Grow (w5.alloc (.cells #[] 3)) (w5.heap.size) 0 ([] : List Int) := by have e := grow_lit w5 ([] : List Int) (by simp); (try simp only [hsz] at e); exact e
  have l16_ := G15_.lt
  have HL17_ : Hid (([] : List Int).length = 0) := rfl
  have hfin : ruleRow E xs l = [] := if_neg (fun q => by have e := q.1; rw [HCB.out] at e; cases e)
  go_wp2
  go_ret
  rw [hfin]
  (refine retInts_grow G15_ (by omega) rfl B14_)

theorem specRuleAwards_any (E : Int) (A : Option Addr) (c : Nat) (xs : List Int) (l : List UInt8) (w : World) (lo hi : Nat) (h : Ints w lo hi A xs) (hh : hi ≤ w.heap.size) (hl : xs.length ≤ 1152921504606846976) (hll : l.length ≤ 1152921504606846976) :
    Calls Try.prog 16 #[.agg #[.int .i64 E, .slice A xs.length c], .string (S l)] w (RetInts w (ruleRow E xs l)) := by
  by_cases hok : caseOkB E xs = true
  · by_cases hrb : ruleB l = true
    · exact specRuleAwards_yy E A c xs l w lo hi h hh hl hll hok hrb
    · exact specRuleAwards_yn E A c xs l w lo hi h hh hl hll hok (by simpa using hrb)
  · exact specRuleAwards_nn E A c xs l w lo hi h hh hl hll (by simpa using hok)


end Go.Proofs.Ytkkdolbbioeknaa
