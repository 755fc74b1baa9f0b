/-
  The law of SimplerRule returns true for all codes, and writes nothing that was there. No condition.
-/
import Derived.Test.YtkkdolbbioeknaaGA
import Derived.Test.YtkkdolbbioeknaaDraw8
import Derived.Test.YtkkdolbbioeknaaRuleLaw
import Derived.Test.YtkkdolbbioeknaaGame8I
import Derived.Test.YtkkdolbbioeknaaGC
import Derived.Test.YtkkdolbbioeknaaFx
import Derived.Deep.RegionHeld3
namespace Go.Proofs.Ytkkdolbbioeknaa
open Go.RowKit

set_option maxRecDepth 10000 in
set_option maxHeartbeats 4000000 in
theorem fnSimplerRule_walk (A0 : Option Addr) (c0 : Nat) (bs : List Int) (B0 : Option Addr) (d0 : Nat) (ds : List Int) (w : World) (h0 : Bytes w w.heap.size A0 bs) (h1 : Bytes w w.heap.size B0 ds) (hl : bs.length ≤ 1048576) (hl1 : ds.length ≤ 1048576) (hc0 : bs.length ≤ c0) (hd0 : ds.length ≤ d0) :
    Calls Try.prog 5 #[.slice A0 bs.length c0, .slice B0 ds.length d0] w fun e w' => e = .returned (.bool true) ∧ Below w.heap.size w w' := by
  have hlm : bs.length ≤ 9223372036854775807 := by omega
  have hlm1 : ds.length ≤ 9223372036854775807 := by omega
  go_enter Try.func5, Try.ntmps5
  have Htrue : Hid True := trivial
  have hc0u := hc0
  have h0u := h0
  have hlmu := hlm
  have hd0u := hd0
  have h1u := h1
  have hlm1u := hlm1
  have hS1 := S_size
  have hS2 : ∀ (l : List UInt8) (k : Nat) (h : k < (S l).size), (S l)[k]'h = l[k]'(by rw [S_size] at h; exact h) := fun _ _ h => S_at2 h
  have hK0 : ({ data := #[] } : ByteArray) = S [] := rfl
  go_wp2_with fail
  refine (drawSimplerRule_any A0 c0 bs _ (h0.more (by first | omega | (simp; omega) | simp)) hlm hc0).mono ?_
  rintro e w1 ⟨l, hl9, rfl, hb2_⟩
  have o3_ := h0.below hb2_ (by first | omega | (simp; omega) | simp)
  have o4_ := h1.below hb2_ (by first | omega | (simp; omega) | simp)
  have z5_ := hb2_.size
  have B6_ := (Below.refl w.heap.size w).trans (hb2_.mono (by first | omega | (simp; omega) | simp))
  clear hb2_
  have hlb : l.length ≤ 1152921504606846976 := by omega
  go_wp2_with fail
  refine (implSimplerRule_any l _ (by first | omega | (simp; omega) | simp)).mono ?_
  rintro e w7 ⟨he, hb7_⟩
  obtain ⟨l8_, hl8_⟩ : ∃ y_, simpL l = y_ := ⟨_, rfl⟩
  rw [hl8_] at he
  subst he
  have Hl8_ := Lib.hid hl8_
  clear hl8_
  have o9_ := o3_.below hb7_ (by first | omega | (simp; omega) | simp)
  have o10_ := o4_.below hb7_ (by first | omega | (simp; omega) | simp)
  have z11_ := hb7_.size
  have B12_ := B6_.trans (hb7_.mono (by first | omega | (simp; omega) | simp))
  clear hb7_
  go_wp2_with fail
  refine (specSimplerRule_any l _ (by first | omega | (simp; omega) | simp)).mono ?_
  rintro e w13 ⟨he, hb13_⟩
  rw [Hl8_.out] at he
  subst he
  have o14_ := o9_.below hb13_ (by first | omega | (simp; omega) | simp)
  have o15_ := o10_.below hb13_ (by first | omega | (simp; omega) | simp)
  have z16_ := hb13_.size
  have B17_ := B12_.trans (hb13_.mono (by first | omega | (simp; omega) | simp))
  clear hb13_
  by_cases h18_ : l8_ = ([] : List UInt8)
  · have h18_b : ((S l8_).toList == (S ([] : List UInt8)).toList) = true := by rw [S_eq]; exact decide_eq_true h18_
    have Hh18_ := Lib.hid h18_
    clear h18_
    have H19_ : Hid (ruleB l = false) := simpL_none (by rw [Hl8_.out]; exact Hh18_.out)
    go_wp2_with fail
    refine (implRuleOk_any l _ (by first | omega | (simp; omega) | simp)).mono ?_
    rintro e w20 ⟨he, hb20_⟩
    rw [H19_.out] at he
    subst he
    have o21_ := o14_.below hb20_ (by first | omega | (simp; omega) | simp)
    have o22_ := o15_.below hb20_ (by first | omega | (simp; omega) | simp)
    have z23_ := hb20_.size
    have B24_ := B17_.trans (hb20_.mono (by first | omega | (simp; omega) | simp))
    clear hb20_
    go_wp2_with fail
    refine (alive_any _).mono ?_
    rintro e w25 ⟨rfl, hb25_⟩
    have o26_ := o21_.below hb25_ (by first | omega | (simp; omega) | simp)
    have o27_ := o22_.below hb25_ (by first | omega | (simp; omega) | simp)
    have z28_ := hb25_.size
    have B29_ := B24_.trans (hb25_.mono (by first | omega | (simp; omega) | simp))
    clear hb25_
    go_wp2
    go_ret
    exact ⟨ret_bool (by first | exact rfl | exact h18_b.trans rfl), B29_⟩
  · have h18_b : ((S l8_).toList == (S ([] : List UInt8)).toList) = false := by rw [S_eq]; exact decide_eq_false h18_
    have HRB : Hid (ruleB l = true) := simpL_rule (by rw [Hl8_.out]; exact h18_)
    have hkp := simpL_ok HRB.out
    rw [Hl8_.out] at hkp
    have HSB := Lib.hid hkp.1
    have hsl : l8_.length ≤ l.length := hkp.2.1
    clear hkp
    go_wp2_with fail
    refine (drawRuleAwards_any B0 d0 ds _ (o15_.more (by first | omega | (simp; omega) | simp)) hlm1 hd0).mono ?_
    rintro e w19 ⟨E, A21_, c22_, xs, l2, hx5, hl29, rfl, ho23_, hb20_⟩
    have o24_ := o14_.below hb20_ (by first | omega | (simp; omega) | simp)
    have o25_ := o15_.below hb20_ (by first | omega | (simp; omega) | simp)
    have z26_ := hb20_.size
    have B27_ := B17_.trans (hb20_.mono (by first | omega | (simp; omega) | simp))
    clear hb20_
    have hlxs : xs.length ≤ 1152921504606846976 := by omega
    have o28_ := o24_.below ((Below.refl _ _).alloc (Nat.le_refl _) (.cells #[.int .i64 E, .slice A21_ xs.length c22_] 28)) (by first | omega | (simp; omega) | simp)
    have o29_ := o25_.below ((Below.refl _ _).alloc (Nat.le_refl _) (.cells #[.int .i64 E, .slice A21_ xs.length c22_] 28)) (by first | omega | (simp; omega) | simp)
    have o30_ := ho23_.alloc (by first | omega | (simp; omega) | simp) (.cells #[.int .i64 E, .slice A21_ xs.length c22_] 28)
    have B31_ := B27_.alloc (by first | omega | (simp; omega) | simp) (.cells #[.int .i64 E, .slice A21_ xs.length c22_] 28)
    have a32_ : (w19.alloc (.cells #[.int .i64 E, .slice A21_ xs.length c22_] 28)).cell? ⟨w19.heap.size, 0, none⟩ = some (.int .i64 E) := by simp [go_sem]
    have a33_ : (w19.alloc (.cells #[.int .i64 E, .slice A21_ xs.length c22_] 28)).cell? ⟨w19.heap.size, 1, none⟩ = some (.slice A21_ xs.length c22_) := by simp [go_sem]
    have H34_ : Hid (ruleB l8_ = true) := HSB.out
    have h35_ : (l8_.length : Int) ≤ (l.length : Int) := by omega
    have h35_d : decide ((l8_.length : Int) ≤ (l.length : Int)) = true := decide_eq_true h35_
    obtain ⟨l36_, hl36_⟩ : ∃ y_, simpL l8_ = y_ := ⟨_, rfl⟩
    have Hl36_ := Lib.hid hl36_
    clear hl36_
    have h37_ : l36_ = l8_ := by rw [← Hl36_.out, ← Hl8_.out]; exact simpL_still HRB.out
    have h37_b : ((S l36_).toList == (S l8_).toList) = true := by rw [S_eq]; exact decide_eq_true h37_
    have Hh37_ := Lib.hid h37_
    clear h37_
    have H44_ : Hid ((ruleRow E xs l8_) = (ruleRow E xs l)) := by show _ = _; rw [← Hl8_.out]; exact ruleRow_simp HRB.out
    have g50_ : w19.heap.size < (w19.alloc (.cells #[.int .i64 E, .slice A21_ xs.length c22_] 28)).heap.size := (by first | omega | (simp; omega) | simp)
    have g51_ : w.heap.size ≤ (w19.alloc (.cells #[.int .i64 E, .slice A21_ xs.length c22_] 28)).heap.size := (by first | omega | (simp; omega) | simp)
    have g52_ : w.heap.size ≤ (w19.alloc (.cells #[.int .i64 E, .slice A21_ xs.length c22_] 28)).heap.size := (by first | omega | (simp; omega) | simp)
    have g53_ : w19.heap.size ≤ (w19.alloc (.cells #[.int .i64 E, .slice A21_ xs.length c22_] 28)).heap.size := (by first | omega | (simp; omega) | simp)
    have g54_ : w.heap.size ≤ (w19.alloc (.cells #[.int .i64 E, .slice A21_ xs.length c22_] 28)).heap.size := (by first | omega | (simp; omega) | simp)
    go_wp2_with fail
    refine wp_region_held_drew (S := (fun w' : World => Below w.heap.size w w' ∧ w19.heap.size + 1 ≤ w'.heap.size ∧ Bytes w' (w.heap.size) A0 bs ∧ Bytes w' (w.heap.size) B0 ds ∧ Own w' (w13.heap.size) (w19.heap.size) A21_ xs ∧ w'.cell? ⟨w19.heap.size, 0, none⟩ = some (.int .i64 E) ∧ w'.cell? ⟨w19.heap.size, 1, none⟩ = some (.slice A21_ xs.length c22_) ∧ (w19.alloc (.cells #[.int .i64 E, .slice A21_ xs.length c22_] 28)).heap.size ≤ w'.heap.size)) (by kernel_rfl) ⟨B31_.drew, by exact (by first | omega | (simp; omega) | simp), o28_, o29_, o30_, a32_, a33_, Nat.le_refl _⟩ (fun hHeld => ?_)
    refine wpAnyH_take (i := 0) (oi := ?oi1) (v := ?vv1) ?hi1 ?hs1 ?hf1 ?ha1 ?hq1 ?hy1 hHeld ?hr1
    case hi1 => (simp only [List.getElem?_toArray, List.getElem?_cons_zero]; exact rfl)
    case hs1 => kernel_rfl
    case hf1 => kernel_rfl
    case ha1 => kernel_rfl
    case hq1 => exact fun _ _ _ h => h
    case hy1 =>
      refine Or.inl ⟨by rfl, ?_⟩
      intro w' hSw
      try dsimp only at hSw
      go_simp
      first | done | with_reducible rfl
    simp only [Act.put, List.setIfInBounds_toArray, List.set_cons_succ, List.set_cons_zero]
    refine wpAnyH_ready (rs := [1]) (by kernel_rfl) (by simp) ?_
    refine AllReadyH.cons rfl (fun K hK => ?_) AllReadyH.nil
    go_simp
    go_at_call 11
    obtain ⟨BB, zz, k45_, k46_, k47_, k48_, k49_, zw⟩ := hHeld
    (with_reducible refine (below_is (implRuleOk_any l8_ _ (by first | omega | (simp; omega) | simp)) (congrArg Value.bool H34_.out)).mono ?_)
    rintro e w55 ⟨rfl, hb9⟩
    refine hK.out _ _ ⟨BB.trans (hb9.mono (by omega)), Nat.le_trans zz hb9.size, k45_.below hb9 (by first | omega | (simp; omega) | simp), k46_.below hb9 (by first | omega | (simp; omega) | simp), k47_.below hb9 (by first | omega | (simp; omega) | simp), (hb9.cell (p := ⟨w19.heap.size, 0, none⟩) (by first | omega | (simp; omega) | simp)).trans k48_, (hb9.cell (p := ⟨w19.heap.size, 1, none⟩) (by first | omega | (simp; omega) | simp)).trans k49_, Nat.le_trans zw hb9.size⟩ (fun hHeld => ?_)
    clear hb9 zw k49_ k48_ k47_ k46_ k45_ zz BB
    clear hK K
    try simp only [Act.put, List.setIfInBounds_toArray, List.set_cons_zero, List.set_cons_succ]
    refine wpAnyH_take (i := 2) (oi := ?oi2) (v := ?vv2) ?hi2 ?hs2 ?hf2 ?ha2 ?hq2 ?hy2 hHeld ?hr2
    case hi2 => (simp only [List.getElem?_toArray, List.getElem?_cons_succ, List.getElem?_cons_zero]; exact rfl)
    case hs2 => kernel_rfl
    case hf2 => kernel_rfl
    case ha2 => kernel_rfl
    case hq2 => exact fun _ _ _ h => h
    case hy2 =>
      refine Or.inl ⟨by rfl, ?_⟩
      intro w' hSw
      try dsimp only at hSw
      go_simp
      first | done | with_reducible rfl
    simp only [Act.put, List.setIfInBounds_toArray, List.set_cons_succ, List.set_cons_zero]
    refine wpAnyH_take (i := 3) (oi := ?oi3) (v := ?vv3) ?hi3 ?hs3 ?hf3 ?ha3 ?hq3 ?hy3 hHeld ?hr3
    case hi3 => (simp only [List.getElem?_toArray, List.getElem?_cons_succ, List.getElem?_cons_zero]; exact rfl)
    case hs3 => kernel_rfl
    case hf3 => kernel_rfl
    case ha3 => kernel_rfl
    case hq3 => exact fun _ _ _ h => h
    case hy3 =>
      refine Or.inl ⟨by rfl, ?_⟩
      intro w' hSw
      try dsimp only at hSw
      go_simp
      first | done | with_reducible rfl
    simp only [Act.put, List.setIfInBounds_toArray, List.set_cons_succ, List.set_cons_zero]
    refine wpAnyH_take (i := 4) (oi := ?oi4) (v := ?vv4) ?hi4 ?hs4 ?hf4 ?ha4 ?hq4 ?hy4 hHeld ?hr4
    case hi4 => (simp only [List.getElem?_toArray, List.getElem?_cons_succ, List.getElem?_cons_zero]; exact rfl)
    case hs4 => kernel_rfl
    case hf4 => kernel_rfl
    case ha4 => kernel_rfl
    case hq4 => exact fun _ _ _ h => h
    case hy4 =>
      refine Or.inl ⟨by rfl, ?_⟩
      intro w' hSw
      try dsimp only at hSw
      go_simp
      first | done | with_reducible rfl
    simp only [Act.put, List.setIfInBounds_toArray, List.set_cons_succ, List.set_cons_zero]
    refine wpAnyH_take (i := 5) (oi := ?oi5) (v := ?vv5) ?hi5 ?hs5 ?hf5 ?ha5 ?hq5 ?hy5 hHeld ?hr5
    case hi5 => (simp only [List.getElem?_toArray, List.getElem?_cons_succ, List.getElem?_cons_zero]; exact rfl)
    case hs5 => kernel_rfl
    case hf5 => kernel_rfl
    case ha5 => kernel_rfl
    case hq5 => exact fun _ _ _ h => h
    case hy5 =>
      refine Or.inl ⟨by rfl, ?_⟩
      intro w' hSw
      try dsimp only at hSw
      go_simp
      first | done | with_reducible rfl
    simp only [Act.put, List.setIfInBounds_toArray, List.set_cons_succ, List.set_cons_zero]
    refine wpAnyH_take (i := 6) (oi := ?oi6) (v := ?vv6) ?hi6 ?hs6 ?hf6 ?ha6 ?hq6 ?hy6 hHeld ?hr6
    case hi6 => (simp only [List.getElem?_toArray, List.getElem?_cons_succ, List.getElem?_cons_zero]; exact rfl)
    case hs6 => kernel_rfl
    case hf6 => kernel_rfl
    case ha6 => kernel_rfl
    case hq6 => exact fun _ _ _ h => h
    case hy6 =>
      refine Or.inl ⟨by rfl, ?_⟩
      intro w' hSw
      try dsimp only at hSw
      go_simp
      first | done | with_reducible rfl
    simp only [Act.put, List.setIfInBounds_toArray, List.set_cons_succ, List.set_cons_zero]
    refine wpAnyH_take (i := 7) (oi := ?oi7) (v := ?vv7) ?hi7 ?hs7 ?hf7 ?ha7 ?hq7 ?hy7 hHeld ?hr7
    case hi7 => (simp only [List.getElem?_toArray, List.getElem?_cons_succ, List.getElem?_cons_zero]; exact rfl)
    case hs7 => kernel_rfl
    case hf7 => kernel_rfl
    case ha7 => kernel_rfl
    case hq7 => exact fun _ _ _ h => h
    case hy7 =>
      refine Or.inl ⟨by rfl, ?_⟩
      intro w' hSw
      try dsimp only at hSw
      go_simp
      first | done | with_reducible rfl
    simp only [Act.put, List.setIfInBounds_toArray, List.set_cons_succ, List.set_cons_zero]
    refine wpAnyH_take (i := 8) (oi := ?oi8) (v := ?vv8) ?hi8 ?hs8 ?hf8 ?ha8 ?hq8 ?hy8 hHeld ?hr8
    case hi8 => (simp only [List.getElem?_toArray, List.getElem?_cons_succ, List.getElem?_cons_zero]; exact rfl)
    case hs8 => kernel_rfl
    case hf8 => kernel_rfl
    case ha8 => kernel_rfl
    case hq8 => exact fun _ _ _ h => h
    case hy8 =>
      refine Or.inl ⟨by rfl, ?_⟩
      intro w' hSw
      try dsimp only at hSw
      go_simp
      first | done | with_reducible rfl
    simp only [Act.put, List.setIfInBounds_toArray, List.set_cons_succ, List.set_cons_zero]
    refine wpAnyH_take (i := 9) (oi := ?oi9) (v := ?vv9) ?hi9 ?hs9 ?hf9 ?ha9 ?hq9 ?hy9 hHeld ?hr9
    case hi9 => (simp only [List.getElem?_toArray, List.getElem?_cons_succ, List.getElem?_cons_zero]; exact rfl)
    case hs9 => kernel_rfl
    case hf9 => kernel_rfl
    case ha9 => kernel_rfl
    case hq9 => exact fun _ _ _ h => h
    case hy9 =>
      refine Or.inl ⟨by rfl, ?_⟩
      intro w' hSw
      try dsimp only at hSw
      go_simp
      first | done | with_reducible rfl
    simp only [Act.put, List.setIfInBounds_toArray, List.set_cons_succ, List.set_cons_zero]
    refine wpAnyH_take (i := 10) (oi := ?oi10) (v := ?vv10) ?hi10 ?hs10 ?hf10 ?ha10 ?hq10 ?hy10 hHeld ?hr10
    case hi10 => (simp only [List.getElem?_toArray, List.getElem?_cons_succ, List.getElem?_cons_zero]; exact rfl)
    case hs10 => kernel_rfl
    case hf10 => kernel_rfl
    case ha10 => kernel_rfl
    case hq10 => exact fun _ _ _ h => h
    case hy10 =>
      refine Or.inl ⟨by rfl, ?_⟩
      intro w' hSw
      try dsimp only at hSw
      go_simp
      first | done | with_reducible rfl
    simp only [Act.put, List.setIfInBounds_toArray, List.set_cons_succ, List.set_cons_zero]
    refine wpAnyH_take (i := 12) (oi := ?oi11) (v := ?vv11) ?hi11 ?hs11 ?hf11 ?ha11 ?hq11 ?hy11 hHeld ?hr11
    case hi11 => (simp only [List.getElem?_toArray, List.getElem?_cons_succ, List.getElem?_cons_zero]; exact rfl)
    case hs11 => kernel_rfl
    case hf11 => kernel_rfl
    case ha11 => kernel_rfl
    case hq11 => exact fun _ _ _ h => h
    case hy11 =>
      refine Or.inl ⟨by rfl, ?_⟩
      intro w' hSw
      try dsimp only at hSw
      go_simp
      first | done | with_reducible rfl
    simp only [Act.put, List.setIfInBounds_toArray, List.set_cons_succ, List.set_cons_zero]
    refine wpAnyH_ready (rs := [11]) (by kernel_rfl) (by simp) ?_
    refine AllReadyH.cons rfl (fun K hK => ?_) AllReadyH.nil
    go_simp
    go_at_call 20
    obtain ⟨BB, zz, k45_, k46_, k47_, k48_, k49_, zw⟩ := hHeld
    (with_reducible refine (below_is (implSimplerRule_any l8_ _ (by first | omega | (simp; omega) | simp)) (congrArg (fun l => Value.string (S l)) Hl36_.out)).mono ?_)
    rintro e w56 ⟨rfl, hb9⟩
    refine hK.out _ _ ⟨BB.trans (hb9.mono (by omega)), Nat.le_trans zz hb9.size, k45_.below hb9 (by first | omega | (simp; omega) | simp), k46_.below hb9 (by first | omega | (simp; omega) | simp), k47_.below hb9 (by first | omega | (simp; omega) | simp), (hb9.cell (p := ⟨w19.heap.size, 0, none⟩) (by first | omega | (simp; omega) | simp)).trans k48_, (hb9.cell (p := ⟨w19.heap.size, 1, none⟩) (by first | omega | (simp; omega) | simp)).trans k49_, Nat.le_trans zw hb9.size⟩ (fun hHeld => ?_)
    clear hb9 zw k49_ k48_ k47_ k46_ k45_ zz BB
    clear hK K
    try simp only [Act.put, List.setIfInBounds_toArray, List.set_cons_zero, List.set_cons_succ]
    refine wpAnyH_take (i := 13) (oi := ?oi12) (v := ?vv12) ?hi12 ?hs12 ?hf12 ?ha12 ?hq12 ?hy12 hHeld ?hr12
    case hi12 => (simp only [List.getElem?_toArray, List.getElem?_cons_succ, List.getElem?_cons_zero]; exact rfl)
    case hs12 => kernel_rfl
    case hf12 => kernel_rfl
    case ha12 => kernel_rfl
    case hq12 => exact fun _ _ _ h => h
    case hy12 =>
      refine Or.inl ⟨by rfl, ?_⟩
      intro w' hSw
      try dsimp only at hSw
      go_simp
      first | done | with_reducible rfl
    simp only [Act.put, List.setIfInBounds_toArray, List.set_cons_succ, List.set_cons_zero]
    refine wpAnyH_take (i := 14) (oi := ?oi13) (v := ?vv13) ?hi13 ?hs13 ?hf13 ?ha13 ?hq13 ?hy13 hHeld ?hr13
    case hi13 => (simp only [List.getElem?_toArray, List.getElem?_cons_succ, List.getElem?_cons_zero]; exact rfl)
    case hs13 => kernel_rfl
    case hf13 => kernel_rfl
    case ha13 => kernel_rfl
    case hq13 => exact fun _ _ _ h => h
    case hy13 =>
      refine Or.inl ⟨by rfl, ?_⟩
      intro w' hSw
      try dsimp only at hSw
      go_simp
      first | done | with_reducible rfl
    simp only [Act.put, List.setIfInBounds_toArray, List.set_cons_succ, List.set_cons_zero]
    refine wpAnyH_take (i := 15) (oi := ?oi14) (v := ?vv14) ?hi14 ?hs14 ?hf14 ?ha14 ?hq14 ?hy14 hHeld ?hr14
    case hi14 => (simp only [List.getElem?_toArray, List.getElem?_cons_succ, List.getElem?_cons_zero]; exact rfl)
    case hs14 => kernel_rfl
    case hf14 => kernel_rfl
    case ha14 => kernel_rfl
    case hq14 => exact fun _ _ _ h => h
    case hy14 =>
      refine Or.inl ⟨by rfl, ?_⟩
      intro w' hSw
      try dsimp only at hSw
      go_simp
      first | done | with_reducible rfl
    simp only [Act.put, List.setIfInBounds_toArray, List.set_cons_succ, List.set_cons_zero]
    refine wpAnyH_take (i := 16) (oi := ?oi15) (v := ?vv15) ?hi15 ?hs15 ?hf15 ?ha15 ?hq15 ?hy15 hHeld ?hr15
    case hi15 => (simp only [List.getElem?_toArray, List.getElem?_cons_succ, List.getElem?_cons_zero]; exact rfl)
    case hs15 => kernel_rfl
    case hf15 => kernel_rfl
    case ha15 => kernel_rfl
    case hq15 => exact fun _ _ _ h => h
    case hy15 =>
      refine Or.inl ⟨by rfl, ?_⟩
      intro w' hSw
      try dsimp only at hSw
      go_simp
      first | done | with_reducible rfl
    simp only [Act.put, List.setIfInBounds_toArray, List.set_cons_succ, List.set_cons_zero]
    refine wpAnyH_take (i := 17) (oi := ?oi16) (v := ?vv16) ?hi16 ?hs16 ?hf16 ?ha16 ?hq16 ?hy16 hHeld ?hr16
    case hi16 => (simp only [List.getElem?_toArray, List.getElem?_cons_succ, List.getElem?_cons_zero]; exact rfl)
    case hs16 => kernel_rfl
    case hf16 => kernel_rfl
    case ha16 => kernel_rfl
    case hq16 => exact fun _ _ _ h => h
    case hy16 =>
      refine Or.inl ⟨by rfl, ?_⟩
      intro w' hSw
      try dsimp only at hSw
      go_simp
      first | done | with_reducible rfl
    simp only [Act.put, List.setIfInBounds_toArray, List.set_cons_succ, List.set_cons_zero]
    refine wpAnyH_take (i := 19) (oi := ?oi17) (v := ?vv17) ?hi17 ?hs17 ?hf17 ?ha17 ?hq17 ?hy17 hHeld ?hr17
    case hi17 => (simp only [List.getElem?_toArray, List.getElem?_cons_succ, List.getElem?_cons_zero]; exact rfl)
    case hs17 => kernel_rfl
    case hf17 => kernel_rfl
    case ha17 => kernel_rfl
    case hq17 => exact fun _ _ _ h => h
    case hy17 =>
      refine Or.inl ⟨by rfl, ?_⟩
      intro w' hSw
      try dsimp only at hSw
      go_simp
      first | done | with_reducible rfl
    simp only [Act.put, List.setIfInBounds_toArray, List.set_cons_succ, List.set_cons_zero]
    refine wpAnyH_take (i := 20) (oi := ?oi18) (v := ?vv18) ?hi18 ?hs18 ?hf18 ?ha18 ?hq18 ?hy18 hHeld ?hr18
    case hi18 => (simp only [List.getElem?_toArray, List.getElem?_cons_succ, List.getElem?_cons_zero]; exact rfl)
    case hs18 => kernel_rfl
    case hf18 => kernel_rfl
    case ha18 => kernel_rfl
    case hq18 => exact fun _ _ _ h => h
    case hy18 =>
      refine Or.inl ⟨by rfl, ?_⟩
      intro w' hSw
      try dsimp only at hSw
      go_simp
      first | done | with_reducible rfl
    simp only [Act.put, List.setIfInBounds_toArray, List.set_cons_succ, List.set_cons_zero]
    refine wpAnyH_ready (rs := [18]) (by kernel_rfl) (by simp) ?_
    refine AllReadyH.cons rfl (fun K hK => ?_) AllReadyH.nil
    go_simp
    go_at_call 14
    obtain ⟨BB, zz, k45_, k46_, k47_, k48_, k49_, zw⟩ := hHeld
    (with_reducible refine (implRuleAwards_any E A21_ c22_ xs l8_ _ _ _ k47_.ints (by first | omega | (simp; omega) | simp) (by omega) (by first | omega | (simp; omega) | simp)).mono ?_)
    rintro e w57 ⟨A38_, c39_, rfl, ho40_, hb9⟩
    have ho40_ := ho40_.more (lo' := w19.heap.size + 1) (by omega) (Nat.le_refl _)
    refine hK.out _ _ ⟨BB.trans (hb9.mono (by omega)), Nat.le_trans zz hb9.size, k45_.below hb9 (by first | omega | (simp; omega) | simp), k46_.below hb9 (by first | omega | (simp; omega) | simp), k47_.below hb9 (by first | omega | (simp; omega) | simp), (hb9.cell (p := ⟨w19.heap.size, 0, none⟩) (by first | omega | (simp; omega) | simp)).trans k48_, (hb9.cell (p := ⟨w19.heap.size, 1, none⟩) (by first | omega | (simp; omega) | simp)).trans k49_, Nat.le_trans zw hb9.size⟩ (fun hHeld => ?_)
    clear hb9 zw k49_ k48_ k47_ k46_ k45_ zz BB
    clear hK K
    try simp only [Act.put, List.setIfInBounds_toArray, List.set_cons_zero, List.set_cons_succ]
    refine wpAnyH_ready (rs := [21]) (by kernel_rfl) (by simp) ?_
    refine AllReadyH.cons rfl (fun K hK => ?_) AllReadyH.nil
    go_simp
    go_at_call 14
    obtain ⟨BB, zz, k45_, k46_, k47_, k48_, k49_, zw⟩ := hHeld
    (with_reducible refine (implRuleAwards_any E A21_ c22_ xs l _ _ _ k47_.ints (by first | omega | (simp; omega) | simp) (by omega) (by first | omega | (simp; omega) | simp)).mono ?_)
    rintro e w58 ⟨A41_, c42_, rfl, ho43_, hb9⟩
    have ho43_ := ho43_.more (lo' := w19.heap.size + 1) (by omega) (Nat.le_refl _)
    have ho40_ := ho40_.below hb9 (Nat.le_refl _)
    have ho40_ := ho40_.more (Nat.le_refl _) hb9.size
    refine hK.out _ _ ⟨BB.trans (hb9.mono (by omega)), Nat.le_trans zz hb9.size, k45_.below hb9 (by first | omega | (simp; omega) | simp), k46_.below hb9 (by first | omega | (simp; omega) | simp), k47_.below hb9 (by first | omega | (simp; omega) | simp), (hb9.cell (p := ⟨w19.heap.size, 0, none⟩) (by first | omega | (simp; omega) | simp)).trans k48_, (hb9.cell (p := ⟨w19.heap.size, 1, none⟩) (by first | omega | (simp; omega) | simp)).trans k49_, Nat.le_trans zw hb9.size⟩ (fun hHeld => ?_)
    clear hb9 zw k49_ k48_ k47_ k46_ k45_ zz BB
    clear hK K
    try simp only [Act.put, List.setIfInBounds_toArray, List.set_cons_zero, List.set_cons_succ]
    refine wpAnyH_ready (rs := [22]) (by kernel_rfl) (by simp) ?_
    refine AllReadyH.cons rfl (fun K hK => ?_) AllReadyH.nil
    go_simp
    go_at_call 15
    obtain ⟨BB, zz, k45_, k46_, k47_, k48_, k49_, zw⟩ := hHeld
    (with_reducible refine (sameInts_yes A38_ A41_ c39_ c42_ (ruleRow E xs l8_) (ruleRow E xs l) _ _ _ _ _ ho40_.ints ho43_.ints (by have e := ruleRow_len E xs l8_; omega) H44_.out).mono ?_)
    rintro e w59 ⟨rfl, hb9⟩
    have ho40_ := ho40_.below hb9 (Nat.le_refl _)
    have ho40_ := ho40_.more (Nat.le_refl _) hb9.size
    have ho43_ := ho43_.below hb9 (Nat.le_refl _)
    have ho43_ := ho43_.more (Nat.le_refl _) hb9.size
    refine hK.out _ _ ⟨BB.trans (hb9.mono (by omega)), Nat.le_trans zz hb9.size, k45_.below hb9 (by first | omega | (simp; omega) | simp), k46_.below hb9 (by first | omega | (simp; omega) | simp), k47_.below hb9 (by first | omega | (simp; omega) | simp), (hb9.cell (p := ⟨w19.heap.size, 0, none⟩) (by first | omega | (simp; omega) | simp)).trans k48_, (hb9.cell (p := ⟨w19.heap.size, 1, none⟩) (by first | omega | (simp; omega) | simp)).trans k49_, Nat.le_trans zw hb9.size⟩ (fun hHeld => ?_)
    clear hb9 zw k49_ k48_ k47_ k46_ k45_ zz BB
    clear hK K
    try simp only [Act.put, List.setIfInBounds_toArray, List.set_cons_zero, List.set_cons_succ]
    refine wpAnyH_take (i := 23) (oi := ?oi19) (v := ?vv19) ?hi19 ?hs19 ?hf19 ?ha19 ?hq19 ?hy19 hHeld ?hr19
    case hi19 => (simp only [List.getElem?_toArray, List.getElem?_cons_succ, List.getElem?_cons_zero]; exact rfl)
    case hs19 => kernel_rfl
    case hf19 => kernel_rfl
    case ha19 => kernel_rfl
    case hq19 => exact fun _ _ _ h => h
    case hy19 =>
      refine Or.inl ⟨by rfl, ?_⟩
      intro w' hSw
      try dsimp only at hSw
      go_simp
      first | done | with_reducible rfl
    simp only [Act.put, List.setIfInBounds_toArray, List.set_cons_succ, List.set_cons_zero]
    refine wpAnyH_take (i := 24) (oi := ?oi20) (v := ?vv20) ?hi20 ?hs20 ?hf20 ?ha20 ?hq20 ?hy20 hHeld ?hr20
    case hi20 => (simp only [List.getElem?_toArray, List.getElem?_cons_succ, List.getElem?_cons_zero]; exact rfl)
    case hs20 => kernel_rfl
    case hf20 => kernel_rfl
    case ha20 => kernel_rfl
    case hq20 => exact fun _ _ _ h => h
    case hy20 =>
      refine Or.inl ⟨by rfl, ?_⟩
      intro w' hSw
      try dsimp only at hSw
      go_simp
      first | done | with_reducible rfl
    simp only [Act.put, List.setIfInBounds_toArray, List.set_cons_succ, List.set_cons_zero]
    refine wpAnyH_ready (rs := [25]) (by kernel_rfl) (by simp) ?_
    refine AllReadyH.cons rfl (fun K hK => ?_) AllReadyH.nil
    go_simp
    go_at_call 17
    obtain ⟨BB, zz, k45_, k46_, k47_, k48_, k49_, zw⟩ := hHeld
    (with_reducible refine (alive_any _).mono ?_)
    rintro e w60 ⟨rfl, hb9⟩
    have ho40_ := ho40_.below hb9 (Nat.le_refl _)
    have ho40_ := ho40_.more (Nat.le_refl _) hb9.size
    have ho43_ := ho43_.below hb9 (Nat.le_refl _)
    have ho43_ := ho43_.more (Nat.le_refl _) hb9.size
    refine hK.out _ _ ⟨BB.trans (hb9.mono (by omega)), Nat.le_trans zz hb9.size, k45_.below hb9 (by first | omega | (simp; omega) | simp), k46_.below hb9 (by first | omega | (simp; omega) | simp), k47_.below hb9 (by first | omega | (simp; omega) | simp), (hb9.cell (p := ⟨w19.heap.size, 0, none⟩) (by first | omega | (simp; omega) | simp)).trans k48_, (hb9.cell (p := ⟨w19.heap.size, 1, none⟩) (by first | omega | (simp; omega) | simp)).trans k49_, Nat.le_trans zw hb9.size⟩ (fun hHeld => ?_)
    clear hb9 zw k49_ k48_ k47_ k46_ k45_ zz BB
    clear hK K
    try simp only [Act.put, List.setIfInBounds_toArray, List.set_cons_zero, List.set_cons_succ]
    refine wpAnyH_take (i := 26) (oi := ?oi21) (v := ?vv21) ?hi21 ?hs21 ?hf21 ?ha21 ?hq21 ?hy21 hHeld ?hr21
    case hi21 => (simp only [List.getElem?_toArray, List.getElem?_cons_succ, List.getElem?_cons_zero]; exact rfl)
    case hs21 => kernel_rfl
    case hf21 => kernel_rfl
    case ha21 => kernel_rfl
    case hq21 => exact fun _ _ _ h => h
    case hy21 =>
      refine Or.inl ⟨by rfl, ?_⟩
      intro w' hSw
      try dsimp only at hSw
      go_simp
      first | done | with_reducible rfl
    simp only [Act.put, List.setIfInBounds_toArray, List.set_cons_succ, List.set_cons_zero]
    refine wpAnyH_take (i := 27) (oi := ?oi22) (v := ?vv22) ?hi22 ?hs22 ?hf22 ?ha22 ?hq22 ?hy22 hHeld ?hr22
    case hi22 => (simp only [List.getElem?_toArray, List.getElem?_cons_succ, List.getElem?_cons_zero]; exact rfl)
    case hs22 => kernel_rfl
    case hf22 => kernel_rfl
    case ha22 => kernel_rfl
    case hq22 => exact fun _ _ _ h => h
    case hy22 =>
      refine Or.inl ⟨by rfl, ?_⟩
      intro w' hSw
      try dsimp only at hSw
      go_simp
      first | done | with_reducible rfl
    simp only [Act.put, List.setIfInBounds_toArray, List.set_cons_succ, List.set_cons_zero]
    refine wpAnyH_done (by kernel_rfl) ?_ _
    obtain ⟨BB, zz, k45_, k46_, k47_, k48_, k49_, zw⟩ := hHeld
    have k61_ := BB
    clear BB
    have k62_ := zz
    clear zz
    have k63_ := zw
    clear zw
    go_wp2
    go_ret
    exact ⟨ret_bool (by first | exact rfl | exact h37_b.trans rfl), k61_⟩

set_option maxRecDepth 10000 in
set_option maxHeartbeats 400000 in
theorem fnSimplerRule_big (A0 : Option Addr) (c0 : Nat) (bs : List Int) (B0 : Option Addr) (d0 : Nat) (ds : List Int) (w : World) (hl : ¬ bs.length ≤ 1048576) (hm : bs.length ≤ 9223372036854775807) :
    Calls Try.prog 5 #[.slice A0 bs.length c0, .slice B0 ds.length d0] w fun e w' => e = .returned (.bool true) ∧ Below w.heap.size w w' := by
  go_enter Try.func5, Try.ntmps5
  go_wp2
  go_ret
  exact ⟨rfl, Below.refl _ _⟩

set_option maxRecDepth 10000 in
set_option maxHeartbeats 400000 in
theorem fnSimplerRule_big2 (A0 : Option Addr) (c0 : Nat) (bs : List Int) (B0 : Option Addr) (d0 : Nat) (ds : List Int) (w : World) (hl : bs.length ≤ 1048576) (hl1 : ¬ ds.length ≤ 1048576) (hm : ds.length ≤ 9223372036854775807) :
    Calls Try.prog 5 #[.slice A0 bs.length c0, .slice B0 ds.length d0] w fun e w' => e = .returned (.bool true) ∧ Below w.heap.size w w' := by
  go_enter Try.func5, Try.ntmps5
  go_wp2
  go_ret
  exact ⟨rfl, Below.refl _ _⟩

theorem fnSimplerRule_all (A0 : Option Addr) (c0 : Nat) (bs : List Int) (B0 : Option Addr) (d0 : Nat) (ds : List Int) (w : World) (h0 : Bytes w w.heap.size A0 bs) (h1 : Bytes w w.heap.size B0 ds) (hm : bs.length ≤ 9223372036854775807) (hm1 : ds.length ≤ 9223372036854775807) (hc0 : bs.length ≤ c0) (hd0 : ds.length ≤ d0) :
    Calls Try.prog 5 #[.slice A0 bs.length c0, .slice B0 ds.length d0] w fun e w' => e = .returned (.bool true) ∧ Below w.heap.size w w' := by
  by_cases hl : bs.length ≤ 1048576
  · by_cases hl1 : ds.length ≤ 1048576
    · exact fnSimplerRule_walk A0 c0 bs B0 d0 ds w h0 h1 hl hl1 hc0 hd0
    · exact fnSimplerRule_big2 A0 c0 bs B0 d0 ds w hl hl1 hm1
  · exact fnSimplerRule_big A0 c0 bs B0 d0 ds w hl hm

end Go.Proofs.Ytkkdolbbioeknaa
