/-
  The law of RuleAwards returns true for every code, and writes nothing that was there. No condition.
-/
import Derived.Test.YtkkdolbbioeknaaGA
import Derived.Test.YtkkdolbbioeknaaDraw8
import Derived.Test.YtkkdolbbioeknaaRuleLaw
import Derived.Test.YtkkdolbbioeknaaGame8I
import Derived.Test.YtkkdolbbioeknaaGC
import Derived.Test.YtkkdolbbioeknaaFx
import Derived.Deep.RegionHeld3
namespace Go.Proofs.Ytkkdolbbioeknaa
open Go.RowKit

set_option maxRecDepth 10000 in
set_option maxHeartbeats 2000000 in
theorem fnRuleAwards_walk (A0 : Option Addr) (c0 : Nat) (bs : List Int) (w : World) (h0 : Bytes w w.heap.size A0 bs) (hl : bs.length ≤ 1048576) (hc0 : bs.length ≤ c0) :
    Calls Try.prog 4 #[.slice A0 bs.length c0] w fun e w' => e = .returned (.bool true) ∧ Below w.heap.size w w' := by
  have hlm : bs.length ≤ 9223372036854775807 := by omega
  go_enter Try.func4, Try.ntmps4
  have Htrue : Hid True := trivial
  have hc0u := hc0
  have h0u := h0
  have hlmu := hlm
  have hS1 := S_size
  have hS2 : ∀ (l : List UInt8) (k : Nat) (h : k < (S l).size), (S l)[k]'h = l[k]'(by rw [S_size] at h; exact h) := fun _ _ h => S_at2 h
  have hK0 : ({ data := #[100, 100] } : ByteArray) = S [100, 100] := rfl
  have hK1 : ({ data := #[100, 114] } : ByteArray) = S [100, 114] := rfl
  have hK2 : ({ data := #[100, 99] } : ByteArray) = S [100, 99] := rfl
  have hK3 : ({ data := #[114, 100] } : ByteArray) = S [114, 100] := rfl
  have hK4 : ({ data := #[99, 100] } : ByteArray) = S [99, 100] := rfl
  go_wp2_with fail
  refine (drawRuleAwards_any A0 c0 bs _ (h0.more (by first | omega | (simp; omega) | simp)) hlm hc0).mono ?_
  rintro e w1 ⟨E, A3_, c4_, xs, l, hx5, hl9, rfl, ho5_, hb2_⟩
  have o6_ := h0.below hb2_ (by first | omega | (simp; omega) | simp)
  have z7_ := hb2_.size
  have B8_ := (Below.refl w.heap.size w).trans (hb2_.mono (by first | omega | (simp; omega) | simp))
  clear hb2_
  have hlxs : xs.length ≤ 1152921504606846976 := by omega
  have o9_ := o6_.below ((Below.refl _ _).alloc (Nat.le_refl _) (.cells #[.int .i64 E, .slice A3_ xs.length c4_] 28)) (by first | omega | (simp; omega) | simp)
  have o10_ := ho5_.alloc (by first | omega | (simp; omega) | simp) (.cells #[.int .i64 E, .slice A3_ xs.length c4_] 28)
  have B11_ := B8_.alloc (by first | omega | (simp; omega) | simp) (.cells #[.int .i64 E, .slice A3_ xs.length c4_] 28)
  have a12_ : (w1.alloc (.cells #[.int .i64 E, .slice A3_ xs.length c4_] 28)).cell? ⟨w1.heap.size, 0, none⟩ = some (.int .i64 E) := by simp [go_sem]
  have a13_ : (w1.alloc (.cells #[.int .i64 E, .slice A3_ xs.length c4_] 28)).cell? ⟨w1.heap.size, 1, none⟩ = some (.slice A3_ xs.length c4_) := by simp [go_sem]
  go_wp2_with fail
  refine (implRuleAwards_any E A3_ c4_ xs l _ _ _ o10_.ints (by first | omega | (simp; omega) | simp) (by omega) (by first | omega | (simp; omega) | simp)).mono ?_
  rintro e w14 ⟨A15_, c16_, rfl, ho17_, hb14_⟩
  have ho17_ : Own w14 (w1.heap.size + 1) w14.heap.size A15_ (ruleRow E xs l) := ho17_.more (by simp) (Nat.le_refl _)
  have o18_ := o9_.below hb14_ (by first | omega | (simp; omega) | simp)
  have o19_ := o10_.below hb14_ (by first | omega | (simp; omega) | simp)
  have o20_ := (hb14_.cell (p := ⟨w1.heap.size, 0, none⟩) (by first | omega | (simp; omega) | simp)).trans a12_
  have o21_ := (hb14_.cell (p := ⟨w1.heap.size, 1, none⟩) (by first | omega | (simp; omega) | simp)).trans a13_
  have z22_ := hb14_.size
  try simp at z22_
  have B23_ := B11_.trans (hb14_.mono (by first | omega | (simp; omega) | simp))
  clear hb14_
  go_wp2_with fail
  refine (specRuleAwards_any E A3_ c4_ xs l _ _ _ o19_.ints (by first | omega | (simp; omega) | simp) (by omega) (by first | omega | (simp; omega) | simp)).mono ?_
  rintro e w24 ⟨A25_, c26_, rfl, ho27_, hb24_⟩
  have o28_ := o18_.below hb24_ (by first | omega | (simp; omega) | simp)
  have o29_ := o19_.below hb24_ (by first | omega | (simp; omega) | simp)
  have o30_ := ho17_.below hb24_ (by first | omega | (simp; omega) | simp)
  have o31_ := (hb24_.cell (p := ⟨w1.heap.size, 0, none⟩) (by first | omega | (simp; omega) | simp)).trans o20_
  have o32_ := (hb24_.cell (p := ⟨w1.heap.size, 1, none⟩) (by first | omega | (simp; omega) | simp)).trans o21_
  have z33_ := hb24_.size
  have B34_ := B23_.trans (hb24_.mono (by first | omega | (simp; omega) | simp))
  clear hb24_
  go_wp2_with fail
  refine (sameInts_yes A15_ A25_ c16_ c26_ (ruleRow E xs l) (ruleRow E xs l) _ _ _ _ _ o30_.ints ho27_.ints (by have e := ruleRow_len E xs l; omega) rfl).mono ?_
  rintro e w35 ⟨rfl, hb35_⟩
  have o36_ := o28_.below hb35_ (by first | omega | (simp; omega) | simp)
  have o37_ := o29_.below hb35_ (by first | omega | (simp; omega) | simp)
  have o38_ := o30_.below hb35_ (by first | omega | (simp; omega) | simp)
  have o39_ := ho27_.below hb35_ (by first | omega | (simp; omega) | simp)
  have o40_ := (hb35_.cell (p := ⟨w1.heap.size, 0, none⟩) (by first | omega | (simp; omega) | simp)).trans o31_
  have o41_ := (hb35_.cell (p := ⟨w1.heap.size, 1, none⟩) (by first | omega | (simp; omega) | simp)).trans o32_
  have z42_ := hb35_.size
  have B43_ := B34_.trans (hb35_.mono (by first | omega | (simp; omega) | simp))
  clear hb35_
  by_cases h44_ : ((ruleRow E xs l).length : Int) = 0
  · have h44_b : (((ruleRow E xs l).length : Int) == 0) = true := by simpa using h44_
    have h44_n : (((ruleRow E xs l).length : Int) != 0) = false := by simpa using h44_
    have h44_le : ((ruleRow E xs l).length : Int) ≤ 0 := by omega
    have h44_ge : 0 ≤ ((ruleRow E xs l).length : Int) := by omega
    have Hh44_ := Lib.hid h44_
    clear h44_
    go_wp2_with fail
    refine (alive_any _).mono ?_
    rintro e w45 ⟨rfl, hb45_⟩
    have o46_ := o36_.below hb45_ (by first | omega | (simp; omega) | simp)
    have o47_ := o37_.below hb45_ (by first | omega | (simp; omega) | simp)
    have o48_ := o38_.below hb45_ (by first | omega | (simp; omega) | simp)
    have o49_ := o39_.below hb45_ (by first | omega | (simp; omega) | simp)
    have o50_ := (hb45_.cell (p := ⟨w1.heap.size, 0, none⟩) (by first | omega | (simp; omega) | simp)).trans o40_
    have o51_ := (hb45_.cell (p := ⟨w1.heap.size, 1, none⟩) (by first | omega | (simp; omega) | simp)).trans o41_
    have z52_ := hb45_.size
    have B53_ := B43_.trans (hb45_.mono (by first | omega | (simp; omega) | simp))
    clear hb45_
    go_wp2
    go_ret
    exact ⟨ret_bool (by first | exact rfl | exact h44_b.trans rfl), B53_⟩
  · have h44_b : (((ruleRow E xs l).length : Int) == 0) = false := by simpa using h44_
    have h44_n : (((ruleRow E xs l).length : Int) != 0) = true := by simpa using h44_
    have hso := ruleRow_some (E := E) (xs := xs) (l := l) (by omega)
    have HCS := Lib.hid hso.1
    have HRB := Lib.hid hso.2
    clear hso
    by_cases h45_ : ((l.length : Int) + 2) > 8
    · have h45_d : decide (((l.length : Int) + 2) > 8) = true := decide_eq_true h45_
      have H46_ : Hid (awardsB E xs (ruleRow E xs l) = true) := ruleRow_aw HCS.out HRB.out
      go_wp2_with fail
      refine (implAwardsOk_any E A3_ c4_ xs A15_ c16_ (ruleRow E xs l) _ _ _ o37_.ints (by first | omega | (simp; omega) | simp) (by omega) _ _ o38_.ints (by first | omega | (simp; omega) | simp) (by have e := ruleRow_len E xs l; omega)).mono ?_
      rintro e w47 ⟨he, hb47_⟩
      rw [H46_.out] at he
      subst he
      have o48_ := o36_.below hb47_ (by first | omega | (simp; omega) | simp)
      have o49_ := o37_.below hb47_ (by first | omega | (simp; omega) | simp)
      have o50_ := o38_.below hb47_ (by first | omega | (simp; omega) | simp)
      have o51_ := o39_.below hb47_ (by first | omega | (simp; omega) | simp)
      have o52_ := (hb47_.cell (p := ⟨w1.heap.size, 0, none⟩) (by first | omega | (simp; omega) | simp)).trans o40_
      have o53_ := (hb47_.cell (p := ⟨w1.heap.size, 1, none⟩) (by first | omega | (simp; omega) | simp)).trans o41_
      have z54_ := hb47_.size
      have B55_ := B43_.trans (hb47_.mono (by first | omega | (simp; omega) | simp))
      clear hb47_
      go_wp2
      go_ret
      exact ⟨ret_bool (by first | exact rfl | exact (decide_eq_true (by omega)).trans rfl), B55_⟩
    · have h45_d : decide (((l.length : Int) + 2) > 8) = false := decide_eq_false h45_
      have H46_ : Hid (awardsB E xs (ruleRow E xs l) = true) := ruleRow_aw HCS.out HRB.out
      have hx47_ : Op.stringOp .add (S l) (S ([100, 100] : List UInt8)) = pure (.string (S (l ++ ([100, 100] : List UInt8)))) := S_add (by first | omega | (simp; omega))
      have H51_ : Hid ((ruleRow E xs (l ++ ([100, 100] : List UInt8))) = (ruleRow E xs l)) := ruleRow_dd HRB.out (by omega)
      have hx52_ : Op.stringOp .add (S l) (S ([99, 100] : List UInt8)) = pure (.string (S (l ++ ([99, 100] : List UInt8)))) := S_add (by first | omega | (simp; omega))
      have hx56_ : Op.stringOp .add (S l) (S ([100, 114] : List UInt8)) = pure (.string (S (l ++ ([100, 114] : List UInt8)))) := S_add (by first | omega | (simp; omega))
      have H60_ : Hid ((ruleRow E xs (l ++ ([99, 100] : List UInt8))) = (ruleRow E xs (l ++ ([100, 114] : List UInt8)))) := ruleRow_cd HRB.out (by omega)
      have hx61_ : Op.stringOp .add (S l) (S ([114, 100] : List UInt8)) = pure (.string (S (l ++ ([114, 100] : List UInt8)))) := S_add (by first | omega | (simp; omega))
      have hx65_ : Op.stringOp .add (S l) (S ([100, 99] : List UInt8)) = pure (.string (S (l ++ ([100, 99] : List UInt8)))) := S_add (by first | omega | (simp; omega))
      have H69_ : Hid ((ruleRow E xs (l ++ ([114, 100] : List UInt8))) = (ruleRow E xs (l ++ ([100, 99] : List UInt8)))) := ruleRow_rd HRB.out (by omega)
      have g76_ : w1.heap.size < w35.heap.size := (by first | omega | (simp; omega) | simp)
      have g77_ : w.heap.size ≤ w35.heap.size := (by first | omega | (simp; omega) | simp)
      have g78_ : w1.heap.size ≤ w35.heap.size := (by first | omega | (simp; omega) | simp)
      have g79_ : w14.heap.size ≤ w35.heap.size := (by first | omega | (simp; omega) | simp)
      have g80_ : w24.heap.size ≤ w35.heap.size := (by first | omega | (simp; omega) | simp)
      have g81_ : w.heap.size ≤ w35.heap.size := (by first | omega | (simp; omega) | simp)
      go_wp2_with fail
      refine wp_region_held_drew (S := (fun w' : World => Below w.heap.size w w' ∧ w35.heap.size ≤ w'.heap.size ∧ Bytes w' (w.heap.size) A0 bs ∧ Own w' (w.heap.size) (w1.heap.size) A3_ xs ∧ Own w' (w1.heap.size + 1) (w14.heap.size) A15_ (ruleRow E xs l) ∧ Own w' (w14.heap.size) (w24.heap.size) A25_ (ruleRow E xs l) ∧ w'.cell? ⟨w1.heap.size, 0, none⟩ = some (.int .i64 E) ∧ w'.cell? ⟨w1.heap.size, 1, none⟩ = some (.slice A3_ xs.length c4_) ∧ w35.heap.size ≤ w'.heap.size)) (by kernel_rfl) ⟨B43_.drew, by exact (by first | omega | (simp; omega) | simp), o36_, o37_, o38_, o39_, o40_, o41_, Nat.le_refl _⟩ (fun hHeld => ?_)
      refine wpAnyH_take (i := 0) (oi := ?oi1) (v := ?vv1) ?hi1 ?hs1 ?hf1 ?ha1 ?hq1 ?hy1 hHeld ?hr1
      case hi1 => (simp only [List.getElem?_toArray, List.getElem?_cons_zero]; exact rfl)
      case hs1 => kernel_rfl
      case hf1 => kernel_rfl
      case ha1 => kernel_rfl
      case hq1 => exact fun _ _ _ h => h
      case hy1 =>
        refine Or.inl ⟨by rfl, ?_⟩
        intro w' hSw
        try dsimp only at hSw
        go_simp
        first | done | with_reducible rfl
      simp only [Act.put, List.setIfInBounds_toArray, List.set_cons_succ, List.set_cons_zero]
      refine wpAnyH_take (i := 1) (oi := ?oi2) (v := ?vv2) ?hi2 ?hs2 ?hf2 ?ha2 ?hq2 ?hy2 hHeld ?hr2
      case hi2 => (simp only [List.getElem?_toArray, List.getElem?_cons_succ, List.getElem?_cons_zero]; exact rfl)
      case hs2 => kernel_rfl
      case hf2 => kernel_rfl
      case ha2 => kernel_rfl
      case hq2 => exact fun _ _ _ h => h
      case hy2 =>
        refine Or.inl ⟨by rfl, ?_⟩
        intro w' hSw
        try dsimp only at hSw
        go_simp
        first | done | with_reducible rfl
      simp only [Act.put, List.setIfInBounds_toArray, List.set_cons_succ, List.set_cons_zero]
      refine wpAnyH_ready (rs := [2]) (by kernel_rfl) (by simp) ?_
      refine AllReadyH.cons rfl (fun K hK => ?_) AllReadyH.nil
      go_simp
      go_at_call 18
      obtain ⟨BB, zz, k70_, k71_, k72_, k73_, k74_, k75_, zw⟩ := hHeld
      (with_reducible refine (below_is (implAwardsOk_any E A3_ c4_ xs A15_ c16_ (ruleRow E xs l) _ _ _ k71_.ints (by first | omega | (simp; omega) | simp) (by omega) _ _ k72_.ints (by first | omega | (simp; omega) | simp) (by have e := ruleRow_len E xs l; omega)) (congrArg Value.bool H46_.out)).mono ?_)
      rintro e w82 ⟨rfl, hb9⟩
      refine hK.out _ _ ⟨BB.trans (hb9.mono (by omega)), Nat.le_trans zz hb9.size, k70_.below hb9 (by first | omega | (simp; omega) | simp), k71_.below hb9 (by first | omega | (simp; omega) | simp), k72_.below hb9 (by first | omega | (simp; omega) | simp), k73_.below hb9 (by first | omega | (simp; omega) | simp), (hb9.cell (p := ⟨w1.heap.size, 0, none⟩) (by first | omega | (simp; omega) | simp)).trans k74_, (hb9.cell (p := ⟨w1.heap.size, 1, none⟩) (by first | omega | (simp; omega) | simp)).trans k75_, Nat.le_trans zw hb9.size⟩ (fun hHeld => ?_)
      clear hb9 zw k75_ k74_ k73_ k72_ k71_ k70_ zz BB
      clear hK K
      try simp only [Act.put, List.setIfInBounds_toArray, List.set_cons_zero, List.set_cons_succ]
      refine wpAnyH_take (i := 3) (oi := ?oi3) (v := ?vv3) ?hi3 ?hs3 ?hf3 ?ha3 ?hq3 ?hy3 hHeld ?hr3
      case hi3 => (simp only [List.getElem?_toArray, List.getElem?_cons_succ, List.getElem?_cons_zero]; exact rfl)
      case hs3 => kernel_rfl
      case hf3 => kernel_rfl
      case ha3 => kernel_rfl
      case hq3 => exact fun _ _ _ h => h
      case hy3 =>
        refine Or.inl ⟨by rfl, ?_⟩
        intro w' hSw
        try dsimp only at hSw
        go_simp
        first | done | with_reducible rfl
      simp only [Act.put, List.setIfInBounds_toArray, List.set_cons_succ, List.set_cons_zero]
      refine wpAnyH_take (i := 4) (oi := ?oi4) (v := ?vv4) ?hi4 ?hs4 ?hf4 ?ha4 ?hq4 ?hy4 hHeld ?hr4
      case hi4 => (simp only [List.getElem?_toArray, List.getElem?_cons_succ, List.getElem?_cons_zero]; exact rfl)
      case hs4 => kernel_rfl
      case hf4 => kernel_rfl
      case ha4 => kernel_rfl
      case hq4 => exact fun _ _ _ h => h
      case hy4 =>
        refine Or.inl ⟨by rfl, ?_⟩
        intro w' hSw
        try dsimp only at hSw
        go_simp
        first | done | with_reducible rfl
      simp only [Act.put, List.setIfInBounds_toArray, List.set_cons_succ, List.set_cons_zero]
      refine wpAnyH_take (i := 5) (oi := ?oi5) (v := ?vv5) ?hi5 ?hs5 ?hf5 ?ha5 ?hq5 ?hy5 hHeld ?hr5
      case hi5 => (simp only [List.getElem?_toArray, List.getElem?_cons_succ, List.getElem?_cons_zero]; exact rfl)
      case hs5 => kernel_rfl
      case hf5 => kernel_rfl
      case ha5 => kernel_rfl
      case hq5 => exact fun _ _ _ h => h
      case hy5 =>
        refine Or.inl ⟨by rfl, ?_⟩
        intro w' hSw
        try dsimp only at hSw
        go_simp
        first | done | with_reducible rfl
      simp only [Act.put, List.setIfInBounds_toArray, List.set_cons_succ, List.set_cons_zero]
      refine wpAnyH_take (i := 6) (oi := ?oi6) (v := ?vv6) ?hi6 ?hs6 ?hf6 ?ha6 ?hq6 ?hy6 hHeld ?hr6
      case hi6 => (simp only [List.getElem?_toArray, List.getElem?_cons_succ, List.getElem?_cons_zero]; exact rfl)
      case hs6 => kernel_rfl
      case hf6 => kernel_rfl
      case ha6 => kernel_rfl
      case hq6 => exact fun _ _ _ h => h
      case hy6 =>
        refine Or.inl ⟨by rfl, ?_⟩
        intro w' hSw
        try dsimp only at hSw
        go_simp
        first | done | with_reducible rfl
      simp only [Act.put, List.setIfInBounds_toArray, List.set_cons_succ, List.set_cons_zero]
      refine wpAnyH_take (i := 8) (oi := ?oi7) (v := ?vv7) ?hi7 ?hs7 ?hf7 ?ha7 ?hq7 ?hy7 hHeld ?hr7
      case hi7 => (simp only [List.getElem?_toArray, List.getElem?_cons_succ, List.getElem?_cons_zero]; exact rfl)
      case hs7 => kernel_rfl
      case hf7 => kernel_rfl
      case ha7 => kernel_rfl
      case hq7 => exact fun _ _ _ h => h
      case hy7 =>
        refine Or.inl ⟨by rfl, ?_⟩
        intro w' hSw
        try dsimp only at hSw
        go_simp
        first | done | with_reducible rfl
      simp only [Act.put, List.setIfInBounds_toArray, List.set_cons_succ, List.set_cons_zero]
      refine wpAnyH_ready (rs := [7]) (by kernel_rfl) (by simp) ?_
      refine AllReadyH.cons rfl (fun K hK => ?_) AllReadyH.nil
      go_simp
      go_at_call 14
      obtain ⟨BB, zz, k70_, k71_, k72_, k73_, k74_, k75_, zw⟩ := hHeld
      (with_reducible refine (implRuleAwards_any E A3_ c4_ xs (l ++ ([100, 100] : List UInt8)) _ _ _ k71_.ints (by first | omega | (simp; omega) | simp) (by omega) (by first | omega | (simp; omega) | simp)).mono ?_)
      rintro e w83 ⟨A48_, c49_, rfl, ho50_, hb9⟩
      have ho50_ := ho50_.more (lo' := w35.heap.size) (by omega) (Nat.le_refl _)
      refine hK.out _ _ ⟨BB.trans (hb9.mono (by omega)), Nat.le_trans zz hb9.size, k70_.below hb9 (by first | omega | (simp; omega) | simp), k71_.below hb9 (by first | omega | (simp; omega) | simp), k72_.below hb9 (by first | omega | (simp; omega) | simp), k73_.below hb9 (by first | omega | (simp; omega) | simp), (hb9.cell (p := ⟨w1.heap.size, 0, none⟩) (by first | omega | (simp; omega) | simp)).trans k74_, (hb9.cell (p := ⟨w1.heap.size, 1, none⟩) (by first | omega | (simp; omega) | simp)).trans k75_, Nat.le_trans zw hb9.size⟩ (fun hHeld => ?_)
      clear hb9 zw k75_ k74_ k73_ k72_ k71_ k70_ zz BB
      clear hK K
      try simp only [Act.put, List.setIfInBounds_toArray, List.set_cons_zero, List.set_cons_succ]
      refine wpAnyH_ready (rs := [9]) (by kernel_rfl) (by simp) ?_
      refine AllReadyH.cons rfl (fun K hK => ?_) AllReadyH.nil
      go_simp
      go_at_call 15
      obtain ⟨BB, zz, k70_, k71_, k72_, k73_, k74_, k75_, zw⟩ := hHeld
      (with_reducible refine (sameInts_yes A48_ A15_ c49_ c16_ (ruleRow E xs (l ++ ([100, 100] : List UInt8))) (ruleRow E xs l) _ _ _ _ _ ho50_.ints k72_.ints (by have e := ruleRow_len E xs (l ++ ([100, 100] : List UInt8)); omega) H51_.out).mono ?_)
      rintro e w84 ⟨rfl, hb9⟩
      have ho50_ := ho50_.below hb9 (Nat.le_refl _)
      have ho50_ := ho50_.more (Nat.le_refl _) hb9.size
      refine hK.out _ _ ⟨BB.trans (hb9.mono (by omega)), Nat.le_trans zz hb9.size, k70_.below hb9 (by first | omega | (simp; omega) | simp), k71_.below hb9 (by first | omega | (simp; omega) | simp), k72_.below hb9 (by first | omega | (simp; omega) | simp), k73_.below hb9 (by first | omega | (simp; omega) | simp), (hb9.cell (p := ⟨w1.heap.size, 0, none⟩) (by first | omega | (simp; omega) | simp)).trans k74_, (hb9.cell (p := ⟨w1.heap.size, 1, none⟩) (by first | omega | (simp; omega) | simp)).trans k75_, Nat.le_trans zw hb9.size⟩ (fun hHeld => ?_)
      clear hb9 zw k75_ k74_ k73_ k72_ k71_ k70_ zz BB
      clear hK K
      try simp only [Act.put, List.setIfInBounds_toArray, List.set_cons_zero, List.set_cons_succ]
      refine wpAnyH_take (i := 10) (oi := ?oi8) (v := ?vv8) ?hi8 ?hs8 ?hf8 ?ha8 ?hq8 ?hy8 hHeld ?hr8
      case hi8 => (simp only [List.getElem?_toArray, List.getElem?_cons_succ, List.getElem?_cons_zero]; exact rfl)
      case hs8 => kernel_rfl
      case hf8 => kernel_rfl
      case ha8 => kernel_rfl
      case hq8 => exact fun _ _ _ h => h
      case hy8 =>
        refine Or.inl ⟨by rfl, ?_⟩
        intro w' hSw
        try dsimp only at hSw
        go_simp
        first | done | with_reducible rfl
      simp only [Act.put, List.setIfInBounds_toArray, List.set_cons_succ, List.set_cons_zero]
      refine wpAnyH_take (i := 11) (oi := ?oi9) (v := ?vv9) ?hi9 ?hs9 ?hf9 ?ha9 ?hq9 ?hy9 hHeld ?hr9
      case hi9 => (simp only [List.getElem?_toArray, List.getElem?_cons_succ, List.getElem?_cons_zero]; exact rfl)
      case hs9 => kernel_rfl
      case hf9 => kernel_rfl
      case ha9 => kernel_rfl
      case hq9 => exact fun _ _ _ h => h
      case hy9 =>
        refine Or.inl ⟨by rfl, ?_⟩
        intro w' hSw
        try dsimp only at hSw
        go_simp
        first | done | with_reducible rfl
      simp only [Act.put, List.setIfInBounds_toArray, List.set_cons_succ, List.set_cons_zero]
      refine wpAnyH_take (i := 12) (oi := ?oi10) (v := ?vv10) ?hi10 ?hs10 ?hf10 ?ha10 ?hq10 ?hy10 hHeld ?hr10
      case hi10 => (simp only [List.getElem?_toArray, List.getElem?_cons_succ, List.getElem?_cons_zero]; exact rfl)
      case hs10 => kernel_rfl
      case hf10 => kernel_rfl
      case ha10 => kernel_rfl
      case hq10 => exact fun _ _ _ h => h
      case hy10 =>
        refine Or.inl ⟨by rfl, ?_⟩
        intro w' hSw
        try dsimp only at hSw
        go_simp
        first | done | with_reducible rfl
      simp only [Act.put, List.setIfInBounds_toArray, List.set_cons_succ, List.set_cons_zero]
      refine wpAnyH_take (i := 13) (oi := ?oi11) (v := ?vv11) ?hi11 ?hs11 ?hf11 ?ha11 ?hq11 ?hy11 hHeld ?hr11
      case hi11 => (simp only [List.getElem?_toArray, List.getElem?_cons_succ, List.getElem?_cons_zero]; exact rfl)
      case hs11 => kernel_rfl
      case hf11 => kernel_rfl
      case ha11 => kernel_rfl
      case hq11 => exact fun _ _ _ h => h
      case hy11 =>
        refine Or.inl ⟨by rfl, ?_⟩
        intro w' hSw
        try dsimp only at hSw
        go_simp
        first | done | with_reducible rfl
      simp only [Act.put, List.setIfInBounds_toArray, List.set_cons_succ, List.set_cons_zero]
      refine wpAnyH_take (i := 14) (oi := ?oi12) (v := ?vv12) ?hi12 ?hs12 ?hf12 ?ha12 ?hq12 ?hy12 hHeld ?hr12
      case hi12 => (simp only [List.getElem?_toArray, List.getElem?_cons_succ, List.getElem?_cons_zero]; exact rfl)
      case hs12 => kernel_rfl
      case hf12 => kernel_rfl
      case ha12 => kernel_rfl
      case hq12 => exact fun _ _ _ h => h
      case hy12 =>
        refine Or.inl ⟨by rfl, ?_⟩
        intro w' hSw
        try dsimp only at hSw
        go_simp
        first | done | with_reducible rfl
      simp only [Act.put, List.setIfInBounds_toArray, List.set_cons_succ, List.set_cons_zero]
      refine wpAnyH_take (i := 16) (oi := ?oi13) (v := ?vv13) ?hi13 ?hs13 ?hf13 ?ha13 ?hq13 ?hy13 hHeld ?hr13
      case hi13 => (simp only [List.getElem?_toArray, List.getElem?_cons_succ, List.getElem?_cons_zero]; exact rfl)
      case hs13 => kernel_rfl
      case hf13 => kernel_rfl
      case ha13 => kernel_rfl
      case hq13 => exact fun _ _ _ h => h
      case hy13 =>
        refine Or.inl ⟨by rfl, ?_⟩
        intro w' hSw
        try dsimp only at hSw
        go_simp
        first | done | with_reducible rfl
      simp only [Act.put, List.setIfInBounds_toArray, List.set_cons_succ, List.set_cons_zero]
      refine wpAnyH_take (i := 17) (oi := ?oi14) (v := ?vv14) ?hi14 ?hs14 ?hf14 ?ha14 ?hq14 ?hy14 hHeld ?hr14
      case hi14 => (simp only [List.getElem?_toArray, List.getElem?_cons_succ, List.getElem?_cons_zero]; exact rfl)
      case hs14 => kernel_rfl
      case hf14 => kernel_rfl
      case ha14 => kernel_rfl
      case hq14 => exact fun _ _ _ h => h
      case hy14 =>
        refine Or.inl ⟨by rfl, ?_⟩
        intro w' hSw
        try dsimp only at hSw
        go_simp
        first | done | with_reducible rfl
      simp only [Act.put, List.setIfInBounds_toArray, List.set_cons_succ, List.set_cons_zero]
      refine wpAnyH_take (i := 18) (oi := ?oi15) (v := ?vv15) ?hi15 ?hs15 ?hf15 ?ha15 ?hq15 ?hy15 hHeld ?hr15
      case hi15 => (simp only [List.getElem?_toArray, List.getElem?_cons_succ, List.getElem?_cons_zero]; exact rfl)
      case hs15 => kernel_rfl
      case hf15 => kernel_rfl
      case ha15 => kernel_rfl
      case hq15 => exact fun _ _ _ h => h
      case hy15 =>
        refine Or.inl ⟨by rfl, ?_⟩
        intro w' hSw
        try dsimp only at hSw
        go_simp
        first | done | with_reducible rfl
      simp only [Act.put, List.setIfInBounds_toArray, List.set_cons_succ, List.set_cons_zero]
      refine wpAnyH_ready (rs := [15]) (by kernel_rfl) (by simp) ?_
      refine AllReadyH.cons rfl (fun K hK => ?_) AllReadyH.nil
      go_simp
      go_at_call 14
      obtain ⟨BB, zz, k70_, k71_, k72_, k73_, k74_, k75_, zw⟩ := hHeld
      (with_reducible refine (implRuleAwards_any E A3_ c4_ xs (l ++ ([99, 100] : List UInt8)) _ _ _ k71_.ints (by first | omega | (simp; omega) | simp) (by omega) (by first | omega | (simp; omega) | simp)).mono ?_)
      rintro e w85 ⟨A53_, c54_, rfl, ho55_, hb9⟩
      have ho55_ := ho55_.more (lo' := w35.heap.size) (by omega) (Nat.le_refl _)
      have ho50_ := ho50_.below hb9 (Nat.le_refl _)
      have ho50_ := ho50_.more (Nat.le_refl _) hb9.size
      refine hK.out _ _ ⟨BB.trans (hb9.mono (by omega)), Nat.le_trans zz hb9.size, k70_.below hb9 (by first | omega | (simp; omega) | simp), k71_.below hb9 (by first | omega | (simp; omega) | simp), k72_.below hb9 (by first | omega | (simp; omega) | simp), k73_.below hb9 (by first | omega | (simp; omega) | simp), (hb9.cell (p := ⟨w1.heap.size, 0, none⟩) (by first | omega | (simp; omega) | simp)).trans k74_, (hb9.cell (p := ⟨w1.heap.size, 1, none⟩) (by first | omega | (simp; omega) | simp)).trans k75_, Nat.le_trans zw hb9.size⟩ (fun hHeld => ?_)
      clear hb9 zw k75_ k74_ k73_ k72_ k71_ k70_ zz BB
      clear hK K
      try simp only [Act.put, List.setIfInBounds_toArray, List.set_cons_zero, List.set_cons_succ]
      refine wpAnyH_ready (rs := [19]) (by kernel_rfl) (by simp) ?_
      refine AllReadyH.cons rfl (fun K hK => ?_) AllReadyH.nil
      go_simp
      go_at_call 14
      obtain ⟨BB, zz, k70_, k71_, k72_, k73_, k74_, k75_, zw⟩ := hHeld
      (with_reducible refine (implRuleAwards_any E A3_ c4_ xs (l ++ ([100, 114] : List UInt8)) _ _ _ k71_.ints (by first | omega | (simp; omega) | simp) (by omega) (by first | omega | (simp; omega) | simp)).mono ?_)
      rintro e w86 ⟨A57_, c58_, rfl, ho59_, hb9⟩
      have ho59_ := ho59_.more (lo' := w35.heap.size) (by omega) (Nat.le_refl _)
      have ho50_ := ho50_.below hb9 (Nat.le_refl _)
      have ho50_ := ho50_.more (Nat.le_refl _) hb9.size
      have ho55_ := ho55_.below hb9 (Nat.le_refl _)
      have ho55_ := ho55_.more (Nat.le_refl _) hb9.size
      refine hK.out _ _ ⟨BB.trans (hb9.mono (by omega)), Nat.le_trans zz hb9.size, k70_.below hb9 (by first | omega | (simp; omega) | simp), k71_.below hb9 (by first | omega | (simp; omega) | simp), k72_.below hb9 (by first | omega | (simp; omega) | simp), k73_.below hb9 (by first | omega | (simp; omega) | simp), (hb9.cell (p := ⟨w1.heap.size, 0, none⟩) (by first | omega | (simp; omega) | simp)).trans k74_, (hb9.cell (p := ⟨w1.heap.size, 1, none⟩) (by first | omega | (simp; omega) | simp)).trans k75_, Nat.le_trans zw hb9.size⟩ (fun hHeld => ?_)
      clear hb9 zw k75_ k74_ k73_ k72_ k71_ k70_ zz BB
      clear hK K
      try simp only [Act.put, List.setIfInBounds_toArray, List.set_cons_zero, List.set_cons_succ]
      refine wpAnyH_ready (rs := [20]) (by kernel_rfl) (by simp) ?_
      refine AllReadyH.cons rfl (fun K hK => ?_) AllReadyH.nil
      go_simp
      go_at_call 15
      obtain ⟨BB, zz, k70_, k71_, k72_, k73_, k74_, k75_, zw⟩ := hHeld
      (with_reducible refine (sameInts_yes A53_ A57_ c54_ c58_ (ruleRow E xs (l ++ ([99, 100] : List UInt8))) (ruleRow E xs (l ++ ([100, 114] : List UInt8))) _ _ _ _ _ ho55_.ints ho59_.ints (by have e := ruleRow_len E xs (l ++ ([99, 100] : List UInt8)); omega) H60_.out).mono ?_)
      rintro e w87 ⟨rfl, hb9⟩
      have ho50_ := ho50_.below hb9 (Nat.le_refl _)
      have ho50_ := ho50_.more (Nat.le_refl _) hb9.size
      have ho55_ := ho55_.below hb9 (Nat.le_refl _)
      have ho55_ := ho55_.more (Nat.le_refl _) hb9.size
      have ho59_ := ho59_.below hb9 (Nat.le_refl _)
      have ho59_ := ho59_.more (Nat.le_refl _) hb9.size
      refine hK.out _ _ ⟨BB.trans (hb9.mono (by omega)), Nat.le_trans zz hb9.size, k70_.below hb9 (by first | omega | (simp; omega) | simp), k71_.below hb9 (by first | omega | (simp; omega) | simp), k72_.below hb9 (by first | omega | (simp; omega) | simp), k73_.below hb9 (by first | omega | (simp; omega) | simp), (hb9.cell (p := ⟨w1.heap.size, 0, none⟩) (by first | omega | (simp; omega) | simp)).trans k74_, (hb9.cell (p := ⟨w1.heap.size, 1, none⟩) (by first | omega | (simp; omega) | simp)).trans k75_, Nat.le_trans zw hb9.size⟩ (fun hHeld => ?_)
      clear hb9 zw k75_ k74_ k73_ k72_ k71_ k70_ zz BB
      clear hK K
      try simp only [Act.put, List.setIfInBounds_toArray, List.set_cons_zero, List.set_cons_succ]
      refine wpAnyH_take (i := 21) (oi := ?oi16) (v := ?vv16) ?hi16 ?hs16 ?hf16 ?ha16 ?hq16 ?hy16 hHeld ?hr16
      case hi16 => (simp only [List.getElem?_toArray, List.getElem?_cons_succ, List.getElem?_cons_zero]; exact rfl)
      case hs16 => kernel_rfl
      case hf16 => kernel_rfl
      case ha16 => kernel_rfl
      case hq16 => exact fun _ _ _ h => h
      case hy16 =>
        refine Or.inl ⟨by rfl, ?_⟩
        intro w' hSw
        try dsimp only at hSw
        go_simp
        first | done | with_reducible rfl
      simp only [Act.put, List.setIfInBounds_toArray, List.set_cons_succ, List.set_cons_zero]
      refine wpAnyH_take (i := 22) (oi := ?oi17) (v := ?vv17) ?hi17 ?hs17 ?hf17 ?ha17 ?hq17 ?hy17 hHeld ?hr17
      case hi17 => (simp only [List.getElem?_toArray, List.getElem?_cons_succ, List.getElem?_cons_zero]; exact rfl)
      case hs17 => kernel_rfl
      case hf17 => kernel_rfl
      case ha17 => kernel_rfl
      case hq17 => exact fun _ _ _ h => h
      case hy17 =>
        refine Or.inl ⟨by rfl, ?_⟩
        intro w' hSw
        try dsimp only at hSw
        go_simp
        first | done | with_reducible rfl
      simp only [Act.put, List.setIfInBounds_toArray, List.set_cons_succ, List.set_cons_zero]
      refine wpAnyH_take (i := 23) (oi := ?oi18) (v := ?vv18) ?hi18 ?hs18 ?hf18 ?ha18 ?hq18 ?hy18 hHeld ?hr18
      case hi18 => (simp only [List.getElem?_toArray, List.getElem?_cons_succ, List.getElem?_cons_zero]; exact rfl)
      case hs18 => kernel_rfl
      case hf18 => kernel_rfl
      case ha18 => kernel_rfl
      case hq18 => exact fun _ _ _ h => h
      case hy18 =>
        refine Or.inl ⟨by rfl, ?_⟩
        intro w' hSw
        try dsimp only at hSw
        go_simp
        first | done | with_reducible rfl
      simp only [Act.put, List.setIfInBounds_toArray, List.set_cons_succ, List.set_cons_zero]
      refine wpAnyH_take (i := 24) (oi := ?oi19) (v := ?vv19) ?hi19 ?hs19 ?hf19 ?ha19 ?hq19 ?hy19 hHeld ?hr19
      case hi19 => (simp only [List.getElem?_toArray, List.getElem?_cons_succ, List.getElem?_cons_zero]; exact rfl)
      case hs19 => kernel_rfl
      case hf19 => kernel_rfl
      case ha19 => kernel_rfl
      case hq19 => exact fun _ _ _ h => h
      case hy19 =>
        refine Or.inl ⟨by rfl, ?_⟩
        intro w' hSw
        try dsimp only at hSw
        go_simp
        first | done | with_reducible rfl
      simp only [Act.put, List.setIfInBounds_toArray, List.set_cons_succ, List.set_cons_zero]
      refine wpAnyH_take (i := 25) (oi := ?oi20) (v := ?vv20) ?hi20 ?hs20 ?hf20 ?ha20 ?hq20 ?hy20 hHeld ?hr20
      case hi20 => (simp only [List.getElem?_toArray, List.getElem?_cons_succ, List.getElem?_cons_zero]; exact rfl)
      case hs20 => kernel_rfl
      case hf20 => kernel_rfl
      case ha20 => kernel_rfl
      case hq20 => exact fun _ _ _ h => h
      case hy20 =>
        refine Or.inl ⟨by rfl, ?_⟩
        intro w' hSw
        try dsimp only at hSw
        go_simp
        first | done | with_reducible rfl
      simp only [Act.put, List.setIfInBounds_toArray, List.set_cons_succ, List.set_cons_zero]
      refine wpAnyH_take (i := 27) (oi := ?oi21) (v := ?vv21) ?hi21 ?hs21 ?hf21 ?ha21 ?hq21 ?hy21 hHeld ?hr21
      case hi21 => (simp only [List.getElem?_toArray, List.getElem?_cons_succ, List.getElem?_cons_zero]; exact rfl)
      case hs21 => kernel_rfl
      case hf21 => kernel_rfl
      case ha21 => kernel_rfl
      case hq21 => exact fun _ _ _ h => h
      case hy21 =>
        refine Or.inl ⟨by rfl, ?_⟩
        intro w' hSw
        try dsimp only at hSw
        go_simp
        first | done | with_reducible rfl
      simp only [Act.put, List.setIfInBounds_toArray, List.set_cons_succ, List.set_cons_zero]
      refine wpAnyH_take (i := 28) (oi := ?oi22) (v := ?vv22) ?hi22 ?hs22 ?hf22 ?ha22 ?hq22 ?hy22 hHeld ?hr22
      case hi22 => (simp only [List.getElem?_toArray, List.getElem?_cons_succ, List.getElem?_cons_zero]; exact rfl)
      case hs22 => kernel_rfl
      case hf22 => kernel_rfl
      case ha22 => kernel_rfl
      case hq22 => exact fun _ _ _ h => h
      case hy22 =>
        refine Or.inl ⟨by rfl, ?_⟩
        intro w' hSw
        try dsimp only at hSw
        go_simp
        first | done | with_reducible rfl
      simp only [Act.put, List.setIfInBounds_toArray, List.set_cons_succ, List.set_cons_zero]
      refine wpAnyH_take (i := 29) (oi := ?oi23) (v := ?vv23) ?hi23 ?hs23 ?hf23 ?ha23 ?hq23 ?hy23 hHeld ?hr23
      case hi23 => (simp only [List.getElem?_toArray, List.getElem?_cons_succ, List.getElem?_cons_zero]; exact rfl)
      case hs23 => kernel_rfl
      case hf23 => kernel_rfl
      case ha23 => kernel_rfl
      case hq23 => exact fun _ _ _ h => h
      case hy23 =>
        refine Or.inl ⟨by rfl, ?_⟩
        intro w' hSw
        try dsimp only at hSw
        go_simp
        first | done | with_reducible rfl
      simp only [Act.put, List.setIfInBounds_toArray, List.set_cons_succ, List.set_cons_zero]
      refine wpAnyH_ready (rs := [26]) (by kernel_rfl) (by simp) ?_
      refine AllReadyH.cons rfl (fun K hK => ?_) AllReadyH.nil
      go_simp
      go_at_call 14
      obtain ⟨BB, zz, k70_, k71_, k72_, k73_, k74_, k75_, zw⟩ := hHeld
      (with_reducible refine (implRuleAwards_any E A3_ c4_ xs (l ++ ([114, 100] : List UInt8)) _ _ _ k71_.ints (by first | omega | (simp; omega) | simp) (by omega) (by first | omega | (simp; omega) | simp)).mono ?_)
      rintro e w88 ⟨A62_, c63_, rfl, ho64_, hb9⟩
      have ho64_ := ho64_.more (lo' := w35.heap.size) (by omega) (Nat.le_refl _)
      have ho50_ := ho50_.below hb9 (Nat.le_refl _)
      have ho50_ := ho50_.more (Nat.le_refl _) hb9.size
      have ho55_ := ho55_.below hb9 (Nat.le_refl _)
      have ho55_ := ho55_.more (Nat.le_refl _) hb9.size
      have ho59_ := ho59_.below hb9 (Nat.le_refl _)
      have ho59_ := ho59_.more (Nat.le_refl _) hb9.size
      refine hK.out _ _ ⟨BB.trans (hb9.mono (by omega)), Nat.le_trans zz hb9.size, k70_.below hb9 (by first | omega | (simp; omega) | simp), k71_.below hb9 (by first | omega | (simp; omega) | simp), k72_.below hb9 (by first | omega | (simp; omega) | simp), k73_.below hb9 (by first | omega | (simp; omega) | simp), (hb9.cell (p := ⟨w1.heap.size, 0, none⟩) (by first | omega | (simp; omega) | simp)).trans k74_, (hb9.cell (p := ⟨w1.heap.size, 1, none⟩) (by first | omega | (simp; omega) | simp)).trans k75_, Nat.le_trans zw hb9.size⟩ (fun hHeld => ?_)
      clear hb9 zw k75_ k74_ k73_ k72_ k71_ k70_ zz BB
      clear hK K
      try simp only [Act.put, List.setIfInBounds_toArray, List.set_cons_zero, List.set_cons_succ]
      refine wpAnyH_ready (rs := [30]) (by kernel_rfl) (by simp) ?_
      refine AllReadyH.cons rfl (fun K hK => ?_) AllReadyH.nil
      go_simp
      go_at_call 14
      obtain ⟨BB, zz, k70_, k71_, k72_, k73_, k74_, k75_, zw⟩ := hHeld
      (with_reducible refine (implRuleAwards_any E A3_ c4_ xs (l ++ ([100, 99] : List UInt8)) _ _ _ k71_.ints (by first | omega | (simp; omega) | simp) (by omega) (by first | omega | (simp; omega) | simp)).mono ?_)
      rintro e w89 ⟨A66_, c67_, rfl, ho68_, hb9⟩
      have ho68_ := ho68_.more (lo' := w35.heap.size) (by omega) (Nat.le_refl _)
      have ho50_ := ho50_.below hb9 (Nat.le_refl _)
      have ho50_ := ho50_.more (Nat.le_refl _) hb9.size
      have ho55_ := ho55_.below hb9 (Nat.le_refl _)
      have ho55_ := ho55_.more (Nat.le_refl _) hb9.size
      have ho59_ := ho59_.below hb9 (Nat.le_refl _)
      have ho59_ := ho59_.more (Nat.le_refl _) hb9.size
      have ho64_ := ho64_.below hb9 (Nat.le_refl _)
      have ho64_ := ho64_.more (Nat.le_refl _) hb9.size
      refine hK.out _ _ ⟨BB.trans (hb9.mono (by omega)), Nat.le_trans zz hb9.size, k70_.below hb9 (by first | omega | (simp; omega) | simp), k71_.below hb9 (by first | omega | (simp; omega) | simp), k72_.below hb9 (by first | omega | (simp; omega) | simp), k73_.below hb9 (by first | omega | (simp; omega) | simp), (hb9.cell (p := ⟨w1.heap.size, 0, none⟩) (by first | omega | (simp; omega) | simp)).trans k74_, (hb9.cell (p := ⟨w1.heap.size, 1, none⟩) (by first | omega | (simp; omega) | simp)).trans k75_, Nat.le_trans zw hb9.size⟩ (fun hHeld => ?_)
      clear hb9 zw k75_ k74_ k73_ k72_ k71_ k70_ zz BB
      clear hK K
      try simp only [Act.put, List.setIfInBounds_toArray, List.set_cons_zero, List.set_cons_succ]
      refine wpAnyH_ready (rs := [31]) (by kernel_rfl) (by simp) ?_
      refine AllReadyH.cons rfl (fun K hK => ?_) AllReadyH.nil
      go_simp
      go_at_call 15
      obtain ⟨BB, zz, k70_, k71_, k72_, k73_, k74_, k75_, zw⟩ := hHeld
      (with_reducible refine (sameInts_yes A62_ A66_ c63_ c67_ (ruleRow E xs (l ++ ([114, 100] : List UInt8))) (ruleRow E xs (l ++ ([100, 99] : List UInt8))) _ _ _ _ _ ho64_.ints ho68_.ints (by have e := ruleRow_len E xs (l ++ ([114, 100] : List UInt8)); omega) H69_.out).mono ?_)
      rintro e w90 ⟨rfl, hb9⟩
      have ho50_ := ho50_.below hb9 (Nat.le_refl _)
      have ho50_ := ho50_.more (Nat.le_refl _) hb9.size
      have ho55_ := ho55_.below hb9 (Nat.le_refl _)
      have ho55_ := ho55_.more (Nat.le_refl _) hb9.size
      have ho59_ := ho59_.below hb9 (Nat.le_refl _)
      have ho59_ := ho59_.more (Nat.le_refl _) hb9.size
      have ho64_ := ho64_.below hb9 (Nat.le_refl _)
      have ho64_ := ho64_.more (Nat.le_refl _) hb9.size
      have ho68_ := ho68_.below hb9 (Nat.le_refl _)
      have ho68_ := ho68_.more (Nat.le_refl _) hb9.size
      refine hK.out _ _ ⟨BB.trans (hb9.mono (by omega)), Nat.le_trans zz hb9.size, k70_.below hb9 (by first | omega | (simp; omega) | simp), k71_.below hb9 (by first | omega | (simp; omega) | simp), k72_.below hb9 (by first | omega | (simp; omega) | simp), k73_.below hb9 (by first | omega | (simp; omega) | simp), (hb9.cell (p := ⟨w1.heap.size, 0, none⟩) (by first | omega | (simp; omega) | simp)).trans k74_, (hb9.cell (p := ⟨w1.heap.size, 1, none⟩) (by first | omega | (simp; omega) | simp)).trans k75_, Nat.le_trans zw hb9.size⟩ (fun hHeld => ?_)
      clear hb9 zw k75_ k74_ k73_ k72_ k71_ k70_ zz BB
      clear hK K
      try simp only [Act.put, List.setIfInBounds_toArray, List.set_cons_zero, List.set_cons_succ]
      refine wpAnyH_take (i := 32) (oi := ?oi24) (v := ?vv24) ?hi24 ?hs24 ?hf24 ?ha24 ?hq24 ?hy24 hHeld ?hr24
      case hi24 => (simp only [List.getElem?_toArray, List.getElem?_cons_succ, List.getElem?_cons_zero]; exact rfl)
      case hs24 => kernel_rfl
      case hf24 => kernel_rfl
      case ha24 => kernel_rfl
      case hq24 => exact fun _ _ _ h => h
      case hy24 =>
        refine Or.inl ⟨by rfl, ?_⟩
        intro w' hSw
        try dsimp only at hSw
        go_simp
        first | done | with_reducible rfl
      simp only [Act.put, List.setIfInBounds_toArray, List.set_cons_succ, List.set_cons_zero]
      refine wpAnyH_take (i := 33) (oi := ?oi25) (v := ?vv25) ?hi25 ?hs25 ?hf25 ?ha25 ?hq25 ?hy25 hHeld ?hr25
      case hi25 => (simp only [List.getElem?_toArray, List.getElem?_cons_succ, List.getElem?_cons_zero]; exact rfl)
      case hs25 => kernel_rfl
      case hf25 => kernel_rfl
      case ha25 => kernel_rfl
      case hq25 => exact fun _ _ _ h => h
      case hy25 =>
        refine Or.inl ⟨by rfl, ?_⟩
        intro w' hSw
        try dsimp only at hSw
        go_simp
        first | done | with_reducible rfl
      simp only [Act.put, List.setIfInBounds_toArray, List.set_cons_succ, List.set_cons_zero]
      refine wpAnyH_done (by kernel_rfl) ?_ _
      obtain ⟨BB, zz, k70_, k71_, k72_, k73_, k74_, k75_, zw⟩ := hHeld
      have k91_ := BB
      clear BB
      have k92_ := zz
      clear zz
      have k93_ := zw
      clear zw
      go_wp2
      go_ret
      exact ⟨ret_bool (by first | exact rfl | exact (decide_eq_false (by omega)).trans rfl), k91_⟩

set_option maxRecDepth 10000 in
set_option maxHeartbeats 400000 in
theorem fnRuleAwards_big (A0 : Option Addr) (c0 : Nat) (bs : List Int) (w : World) (hl : ¬ bs.length ≤ 1048576) (hm : bs.length ≤ 9223372036854775807) :
    Calls Try.prog 4 #[.slice A0 bs.length c0] w fun e w' => e = .returned (.bool true) ∧ Below w.heap.size w w' := by
  go_enter Try.func4, Try.ntmps4
  go_wp2
  go_ret
  exact ⟨rfl, Below.refl _ _⟩

theorem fnRuleAwards_all (A0 : Option Addr) (c0 : Nat) (bs : List Int) (w : World) (h0 : Bytes w w.heap.size A0 bs) (hm : bs.length ≤ 9223372036854775807) (hc0 : bs.length ≤ c0) :
    Calls Try.prog 4 #[.slice A0 bs.length c0] w fun e w' => e = .returned (.bool true) ∧ Below w.heap.size w w' := by
  by_cases hl : bs.length ≤ 1048576
  · exact fnRuleAwards_walk A0 c0 bs w h0 hl hc0
  · exact fnRuleAwards_big A0 c0 bs w hl hm

end Go.Proofs.Ytkkdolbbioeknaa
