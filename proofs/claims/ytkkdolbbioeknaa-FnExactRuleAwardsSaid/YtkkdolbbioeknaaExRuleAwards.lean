/-
  The exact law of RuleAwards returns true, and writes nothing that was there. No condition.
-/
import Derived.Test.YtkkdolbbioeknaaExactCase
import Derived.Test.YtkkdolbbioeknaaFx
import Derived.Test.YtkkdolbbioeknaaRuleLaw
import Derived.Test.YtkkdolbbioeknaaGame8I
import Derived.Deep.RegionHeld3
import Derived.Deep.Cut
namespace Go.Proofs.Ytkkdolbbioeknaa
open Go.RowKit

set_option maxRecDepth 10000 in
set_option maxHeartbeats 2000000 in
theorem exRuleAwards_walk (E : Int) (A : Option Addr) (c : Nat) (xs : List Int) (l : List UInt8) (w : World) (h : Ints w 0 w.heap.size A xs) (hls : l.length ≤ 1048576) (hl : xs.length ≤ 1048576) :
    Calls Try.prog 8 #[.agg #[.int .i64 E, .slice A xs.length c], .string (S l)] w fun e w' => e = .returned (.bool true) ∧ Below w.heap.size w w' := by
  go_enter Try.func8, Try.ntmps8
  have Htrue : Hid True := trivial
  have hS1 := S_size
  have hS2 : ∀ (l : List UInt8) (k : Nat) (h : k < (S l).size), (S l)[k]'h = l[k]'(by rw [S_size] at h; exact h) := fun _ _ h => S_at2 h
  have o1_ := h.alloc (by first | omega | (simp; omega) | simp) (.cells #[.int .i64 E, .slice A xs.length c] 37)
  have B2_ := (Below.refl w.heap.size w).alloc (Nat.le_refl _) (.cells #[.int .i64 E, .slice A xs.length c] 37)
  have a3_ : (w.alloc (.cells #[.int .i64 E, .slice A xs.length c] 37)).cell? ⟨w.heap.size, 0, none⟩ = some (.int .i64 E) := by simp [go_sem]
  have a4_ : (w.alloc (.cells #[.int .i64 E, .slice A xs.length c] 37)).cell? ⟨w.heap.size, 1, none⟩ = some (.slice A xs.length c) := by simp [go_sem]
  go_wp2_with fail
  refine (szCase_yes E A c xs.length 1048576 _ (by omega) (by omega)).mono ?_
  rintro e w5 ⟨rfl, hb5_⟩
  have o6_ := o1_.below hb5_ (by first | omega | (simp; omega) | simp)
  have o7_ := (hb5_.cell (p := ⟨w.heap.size, 0, none⟩) (by first | omega | (simp; omega) | simp)).trans a3_
  have o8_ := (hb5_.cell (p := ⟨w.heap.size, 1, none⟩) (by first | omega | (simp; omega) | simp)).trans a4_
  have z9_ := hb5_.size
  try simp at z9_
  have B10_ := B2_.trans (hb5_.mono (by first | omega | (simp; omega) | simp))
  clear hb5_
  have h11_ : ¬ ((1048576 - (xs.length : Int)) < 0) := by omega
  have h11_d : decide ((1048576 - (xs.length : Int)) < 0) = false := decide_eq_false h11_
  go_wp2_with fail
  refine (toCase_any E A c xs _ _ _ o6_ (by first | omega | (simp; omega) | simp) (by omega)).mono ?_
  rintro e w12 ⟨A13_, c14_, rfl, ho15_, hb12_⟩
  have o16_ := o6_.below hb12_ (by first | omega | (simp; omega) | simp)
  have o17_ := (hb12_.cell (p := ⟨w.heap.size, 0, none⟩) (by first | omega | (simp; omega) | simp)).trans o7_
  have o18_ := (hb12_.cell (p := ⟨w.heap.size, 1, none⟩) (by first | omega | (simp; omega) | simp)).trans o8_
  have z19_ := hb12_.size
  have B20_ := B10_.trans (hb12_.mono (by first | omega | (simp; omega) | simp))
  clear hb12_
  go_wp2_with fail
  refine (specRuleAwards_any E A13_ c14_ xs l _ _ _ ho15_.ints (by first | omega | (simp; omega) | simp) (by omega) (by omega)).mono ?_
  rintro e w21 ⟨A22_, c23_, rfl, ho24_, hb21_⟩
  have o25_ := o16_.below hb21_ (by first | omega | (simp; omega) | simp)
  have o26_ := ho15_.below hb21_ (by first | omega | (simp; omega) | simp)
  have o27_ := (hb21_.cell (p := ⟨w.heap.size, 0, none⟩) (by first | omega | (simp; omega) | simp)).trans o17_
  have o28_ := (hb21_.cell (p := ⟨w.heap.size, 1, none⟩) (by first | omega | (simp; omega) | simp)).trans o18_
  have z29_ := hb21_.size
  have B30_ := B20_.trans (hb21_.mono (by first | omega | (simp; omega) | simp))
  clear hb21_
  go_wp2_with fail
  refine (toCase_any E A c xs _ _ _ o25_ (by first | omega | (simp; omega) | simp) (by omega)).mono ?_
  rintro e w31 ⟨A32_, c33_, rfl, ho34_, hb31_⟩
  have o35_ := o25_.below hb31_ (by first | omega | (simp; omega) | simp)
  have o36_ := o26_.below hb31_ (by first | omega | (simp; omega) | simp)
  have o37_ := ho24_.below hb31_ (by first | omega | (simp; omega) | simp)
  have o38_ := (hb31_.cell (p := ⟨w.heap.size, 0, none⟩) (by first | omega | (simp; omega) | simp)).trans o27_
  have o39_ := (hb31_.cell (p := ⟨w.heap.size, 1, none⟩) (by first | omega | (simp; omega) | simp)).trans o28_
  have z40_ := hb31_.size
  have B41_ := B30_.trans (hb31_.mono (by first | omega | (simp; omega) | simp))
  clear hb31_
  have o42_ := o35_.alloc (by first | omega | (simp; omega) | simp) (.cells #[.int .i64 E, .slice A32_ xs.length c33_] 28)
  have o43_ := o36_.alloc (by first | omega | (simp; omega) | simp) (.cells #[.int .i64 E, .slice A32_ xs.length c33_] 28)
  have o44_ := o37_.alloc (by first | omega | (simp; omega) | simp) (.cells #[.int .i64 E, .slice A32_ xs.length c33_] 28)
  have o45_ := ho34_.alloc (by first | omega | (simp; omega) | simp) (.cells #[.int .i64 E, .slice A32_ xs.length c33_] 28)
  have o46_ := cell_alloc (o := (.cells #[.int .i64 E, .slice A32_ xs.length c33_] 28)) o38_ (by first | omega | (simp; omega) | simp)
  have o47_ := cell_alloc (o := (.cells #[.int .i64 E, .slice A32_ xs.length c33_] 28)) o39_ (by first | omega | (simp; omega) | simp)
  have B48_ := B41_.alloc (by first | omega | (simp; omega) | simp) (.cells #[.int .i64 E, .slice A32_ xs.length c33_] 28)
  have a49_ : (w31.alloc (.cells #[.int .i64 E, .slice A32_ xs.length c33_] 28)).cell? ⟨w31.heap.size, 0, none⟩ = some (.int .i64 E) := by simp [go_sem]
  have a50_ : (w31.alloc (.cells #[.int .i64 E, .slice A32_ xs.length c33_] 28)).cell? ⟨w31.heap.size, 1, none⟩ = some (.slice A32_ xs.length c33_) := by simp [go_sem]
  go_wp2_with fail
  refine (implRuleAwards_any E A32_ c33_ xs l _ _ _ o45_.ints (by first | omega | (simp; omega) | simp) (by omega) (by omega)).mono ?_
  rintro e w51 ⟨A52_, c53_, rfl, ho54_, hb51_⟩
  have ho54_ : Own w51 (w31.heap.size + 1) w51.heap.size A52_ (ruleRow E xs l) := ho54_.more (by simp) (Nat.le_refl _)
  have o55_ := o42_.below hb51_ (by first | omega | (simp; omega) | simp)
  have o56_ := o43_.below hb51_ (by first | omega | (simp; omega) | simp)
  have o57_ := o44_.below hb51_ (by first | omega | (simp; omega) | simp)
  have o58_ := o45_.below hb51_ (by first | omega | (simp; omega) | simp)
  have o59_ := (hb51_.cell (p := ⟨w.heap.size, 0, none⟩) (by first | omega | (simp; omega) | simp)).trans o46_
  have o60_ := (hb51_.cell (p := ⟨w.heap.size, 1, none⟩) (by first | omega | (simp; omega) | simp)).trans o47_
  have o61_ := (hb51_.cell (p := ⟨w31.heap.size, 0, none⟩) (by first | omega | (simp; omega) | simp)).trans a49_
  have o62_ := (hb51_.cell (p := ⟨w31.heap.size, 1, none⟩) (by first | omega | (simp; omega) | simp)).trans a50_
  have z63_ := hb51_.size
  try simp at z63_
  have B64_ := B48_.trans (hb51_.mono (by first | omega | (simp; omega) | simp))
  clear hb51_
  go_wp2_with fail
  refine (eqIntS_same A52_ A22_ c53_ c23_ (ruleRow E xs l) _ _ _ _ _ ho54_.ints o57_.ints (by have e := ruleRow_len E xs l; omega)).mono ?_
  rintro e w65 ⟨rfl, hb65_⟩
  have o66_ := o55_.below hb65_ (by first | omega | (simp; omega) | simp)
  have o67_ := o56_.below hb65_ (by first | omega | (simp; omega) | simp)
  have o68_ := o57_.below hb65_ (by first | omega | (simp; omega) | simp)
  have o69_ := o58_.below hb65_ (by first | omega | (simp; omega) | simp)
  have o70_ := ho54_.below hb65_ (by first | omega | (simp; omega) | simp)
  have o71_ := (hb65_.cell (p := ⟨w.heap.size, 0, none⟩) (by first | omega | (simp; omega) | simp)).trans o59_
  have o72_ := (hb65_.cell (p := ⟨w.heap.size, 1, none⟩) (by first | omega | (simp; omega) | simp)).trans o60_
  have o73_ := (hb65_.cell (p := ⟨w31.heap.size, 0, none⟩) (by first | omega | (simp; omega) | simp)).trans o61_
  have o74_ := (hb65_.cell (p := ⟨w31.heap.size, 1, none⟩) (by first | omega | (simp; omega) | simp)).trans o62_
  have z75_ := hb65_.size
  have B76_ := B64_.trans (hb65_.mono (by first | omega | (simp; omega) | simp))
  clear hb65_
  have g89_ : w.heap.size < w65.heap.size := (by first | omega | (simp; omega) | simp)
  have g90_ : w31.heap.size < w65.heap.size := (by first | omega | (simp; omega) | simp)
  have g91_ : w.heap.size ≤ w65.heap.size := (by first | omega | (simp; omega) | simp)
  have g92_ : w12.heap.size ≤ w65.heap.size := (by first | omega | (simp; omega) | simp)
  have g93_ : w21.heap.size ≤ w65.heap.size := (by first | omega | (simp; omega) | simp)
  have g94_ : w31.heap.size ≤ w65.heap.size := (by first | omega | (simp; omega) | simp)
  have g95_ : w51.heap.size ≤ w65.heap.size := (by first | omega | (simp; omega) | simp)
  have g96_ : w.heap.size ≤ w65.heap.size := (by first | omega | (simp; omega) | simp)
  go_wp2_with fail
  refine wp_region_held_drew (S := (fun w' : World => Below w.heap.size w w' ∧ w65.heap.size ≤ w'.heap.size ∧ Ints w' (0) (w.heap.size) A xs ∧ Own w' (w5.heap.size) (w12.heap.size) A13_ xs ∧ Own w' (w12.heap.size) (w21.heap.size) A22_ (ruleRow E xs l) ∧ Own w' (w21.heap.size) (w31.heap.size) A32_ xs ∧ Own w' (w31.heap.size + 1) (w51.heap.size) A52_ (ruleRow E xs l) ∧ w'.cell? ⟨w.heap.size, 0, none⟩ = some (.int .i64 E) ∧ w'.cell? ⟨w.heap.size, 1, none⟩ = some (.slice A xs.length c) ∧ w'.cell? ⟨w31.heap.size, 0, none⟩ = some (.int .i64 E) ∧ w'.cell? ⟨w31.heap.size, 1, none⟩ = some (.slice A32_ xs.length c33_) ∧ w65.heap.size ≤ w'.heap.size)) (by kernel_rfl) ⟨B76_.drew, by exact (by first | omega | (simp; omega) | simp), o66_, o67_, o68_, o69_, o70_, o71_, o72_, o73_, o74_, Nat.le_refl _⟩ (fun hHeld => ?_)
  refine wpAnyH_take (i := 0) (oi := ?oi1) (v := ?vv1) ?hi1 ?hs1 ?hf1 ?ha1 ?hq1 ?hy1 hHeld ?hr1
  case hi1 => (simp only [List.getElem?_toArray, List.getElem?_cons_zero]; exact rfl)
  case hs1 => kernel_rfl
  case hf1 => kernel_rfl
  case ha1 => kernel_rfl
  case hq1 => exact fun _ _ _ h => h
  case hy1 =>
    refine Or.inl ⟨by rfl, ?_⟩
    intro w' hSw
    try dsimp only at hSw
    go_simp
    first | done | with_reducible rfl
  simp only [Act.put, List.setIfInBounds_toArray, List.set_cons_succ, List.set_cons_zero]
  refine wpAnyH_take (i := 1) (oi := ?oi2) (v := ?vv2) ?hi2 ?hs2 ?hf2 ?ha2 ?hq2 ?hy2 hHeld ?hr2
  case hi2 => (simp only [List.getElem?_toArray, List.getElem?_cons_succ, List.getElem?_cons_zero]; exact rfl)
  case hs2 => kernel_rfl
  case hf2 => kernel_rfl
  case ha2 => kernel_rfl
  case hq2 => exact fun _ _ _ h => h
  case hy2 =>
    refine Or.inl ⟨by rfl, ?_⟩
    intro w' hSw
    try dsimp only at hSw
    go_simp
    first | done | with_reducible rfl
  simp only [Act.put, List.setIfInBounds_toArray, List.set_cons_succ, List.set_cons_zero]
  refine wpAnyH_ready (rs := [2]) (by kernel_rfl) (by simp) ?_
  refine AllReadyH.cons rfl (fun K hK => ?_) AllReadyH.nil
  go_simp
  go_at_call 23
  obtain ⟨BB, zz, k80_, k81_, k82_, k83_, k84_, k85_, k86_, k87_, k88_, zw⟩ := hHeld
  (with_reducible refine (toCase_any E A c xs _ _ _ k80_ (by first | omega | (simp; omega) | simp) (by omega)).mono ?_)
  rintro e w97 ⟨A77_, c78_, rfl, ho79_, hb9⟩
  have ho79_ := ho79_.more (lo' := w65.heap.size) (by omega) (Nat.le_refl _)
  refine hK.out _ _ ⟨BB.trans (hb9.mono (by omega)), Nat.le_trans zz hb9.size, k80_.below hb9 (by first | omega | (simp; omega) | simp), k81_.below hb9 (by first | omega | (simp; omega) | simp), k82_.below hb9 (by first | omega | (simp; omega) | simp), k83_.below hb9 (by first | omega | (simp; omega) | simp), k84_.below hb9 (by first | omega | (simp; omega) | simp), (hb9.cell (p := ⟨w.heap.size, 0, none⟩) (by first | omega | (simp; omega) | simp)).trans k85_, (hb9.cell (p := ⟨w.heap.size, 1, none⟩) (by first | omega | (simp; omega) | simp)).trans k86_, (hb9.cell (p := ⟨w31.heap.size, 0, none⟩) (by first | omega | (simp; omega) | simp)).trans k87_, (hb9.cell (p := ⟨w31.heap.size, 1, none⟩) (by first | omega | (simp; omega) | simp)).trans k88_, Nat.le_trans zw hb9.size⟩ (fun hHeld => ?_)
  clear hb9 zw k88_ k87_ k86_ k85_ k84_ k83_ k82_ k81_ k80_ zz BB
  clear hK K
  try simp only [Act.put, List.setIfInBounds_toArray, List.set_cons_zero, List.set_cons_succ]
  refine wpAnyH_ready (rs := [3]) (by kernel_rfl) (by simp) ?_
  refine AllReadyH.cons rfl (fun K hK => ?_) AllReadyH.nil
  go_simp
  go_at_call 25
  obtain ⟨BB, zz, k80_, k81_, k82_, k83_, k84_, k85_, k86_, k87_, k88_, zw⟩ := hHeld
  (with_reducible refine (eqCase_yes E A32_ A77_ c33_ c78_ xs _ _ _ _ _ k83_.ints ho79_.ints (by first | omega | (simp; omega) | simp) (by first | omega | (simp; omega) | simp) (by omega)).mono ?_)
  rintro e w98 ⟨rfl, hb9⟩
  have ho79_ := ho79_.below hb9 (Nat.le_refl _)
  have ho79_ := ho79_.more (Nat.le_refl _) hb9.size
  refine hK.out _ _ ⟨BB.trans (hb9.mono (by omega)), Nat.le_trans zz hb9.size, k80_.below hb9 (by first | omega | (simp; omega) | simp), k81_.below hb9 (by first | omega | (simp; omega) | simp), k82_.below hb9 (by first | omega | (simp; omega) | simp), k83_.below hb9 (by first | omega | (simp; omega) | simp), k84_.below hb9 (by first | omega | (simp; omega) | simp), (hb9.cell (p := ⟨w.heap.size, 0, none⟩) (by first | omega | (simp; omega) | simp)).trans k85_, (hb9.cell (p := ⟨w.heap.size, 1, none⟩) (by first | omega | (simp; omega) | simp)).trans k86_, (hb9.cell (p := ⟨w31.heap.size, 0, none⟩) (by first | omega | (simp; omega) | simp)).trans k87_, (hb9.cell (p := ⟨w31.heap.size, 1, none⟩) (by first | omega | (simp; omega) | simp)).trans k88_, Nat.le_trans zw hb9.size⟩ (fun hHeld => ?_)
  clear hb9 zw k88_ k87_ k86_ k85_ k84_ k83_ k82_ k81_ k80_ zz BB
  clear hK K
  try simp only [Act.put, List.setIfInBounds_toArray, List.set_cons_zero, List.set_cons_succ]
  refine wpAnyH_take (i := 4) (oi := ?oi3) (v := ?vv3) ?hi3 ?hs3 ?hf3 ?ha3 ?hq3 ?hy3 hHeld ?hr3
  case hi3 => (simp only [List.getElem?_toArray, List.getElem?_cons_succ, List.getElem?_cons_zero]; exact rfl)
  case hs3 => kernel_rfl
  case hf3 => kernel_rfl
  case ha3 => kernel_rfl
  case hq3 => exact fun _ _ _ h => h
  case hy3 =>
    refine Or.inl ⟨by rfl, ?_⟩
    intro w' hSw
    try dsimp only at hSw
    go_simp
    first | done | with_reducible rfl
  simp only [Act.put, List.setIfInBounds_toArray, List.set_cons_succ, List.set_cons_zero]
  refine wpAnyH_done (by kernel_rfl) ?_ _
  obtain ⟨BB, zz, k80_, k81_, k82_, k83_, k84_, k85_, k86_, k87_, k88_, zw⟩ := hHeld
  have k99_ := BB
  clear BB
  have k100_ := zz
  clear zz
  have k101_ := zw
  clear zw
  go_wp2_with fail
  refine (markCase_any E A32_ c33_ xs 1 _ _ _ k83_ (by first | omega | (simp; omega) | simp) (by omega) (by omega) (by omega)).mono ?_
  rintro e w102 ⟨rfl, om103_, hC104_⟩
  have o105_ := k80_.chg hC104_ (by first | omega | (simp; omega) | simp) (by omega)
  have o106_ := k81_.chg hC104_ (by first | omega | (simp; omega) | simp) (by omega)
  have o107_ := k82_.chg hC104_ (by first | omega | (simp; omega) | simp) (by omega)
  have o108_ := k84_.chg hC104_ (by first | omega | (simp; omega) | simp) (by omega)
  have o109_ := ho79_.chg hC104_ (by first | omega | (simp; omega) | simp) (by omega)
  have o110_ := (hC104_.cell (p := ⟨w.heap.size, 0, none⟩) (by first | omega | (simp; omega) | simp) (by first | omega | (simp; omega) | simp)).trans k85_
  have o111_ := (hC104_.cell (p := ⟨w.heap.size, 1, none⟩) (by first | omega | (simp; omega) | simp) (by first | omega | (simp; omega) | simp)).trans k86_
  have o112_ := (hC104_.cell (p := ⟨w31.heap.size, 0, none⟩) (by first | omega | (simp; omega) | simp) (by first | omega | (simp; omega) | simp)).trans k87_
  have o113_ := (hC104_.cell (p := ⟨w31.heap.size, 1, none⟩) (by first | omega | (simp; omega) | simp) (by first | omega | (simp; omega) | simp)).trans k88_
  have z114_ := hC104_.size
  have B115_ := k99_.trans (hC104_.below (by omega) (by first | omega | (simp; omega) | simp))
  clear hC104_
  have h116_ : ¬ ((1 + (xs.length : Int)) < 0) := by omega
  have h116_d : decide ((1 + (xs.length : Int)) < 0) = false := decide_eq_false h116_
  go_wp2_with fail
  refine (eqIntS_same A52_ A22_ c53_ c23_ (ruleRow E xs l) _ _ _ _ _ o108_.ints o107_.ints (by have e := ruleRow_len E xs l; omega)).mono ?_
  rintro e w117 ⟨rfl, hb117_⟩
  have o118_ := o105_.below hb117_ (by first | omega | (simp; omega) | simp)
  have o119_ := o106_.below hb117_ (by first | omega | (simp; omega) | simp)
  have o120_ := o107_.below hb117_ (by first | omega | (simp; omega) | simp)
  have o121_ := om103_.below hb117_ (by first | omega | (simp; omega) | simp)
  have o122_ := o108_.below hb117_ (by first | omega | (simp; omega) | simp)
  have o123_ := o109_.below hb117_ (by first | omega | (simp; omega) | simp)
  have o124_ := (hb117_.cell (p := ⟨w.heap.size, 0, none⟩) (by first | omega | (simp; omega) | simp)).trans o110_
  have o125_ := (hb117_.cell (p := ⟨w.heap.size, 1, none⟩) (by first | omega | (simp; omega) | simp)).trans o111_
  have o126_ := (hb117_.cell (p := ⟨w31.heap.size, 0, none⟩) (by first | omega | (simp; omega) | simp)).trans o112_
  have o127_ := (hb117_.cell (p := ⟨w31.heap.size, 1, none⟩) (by first | omega | (simp; omega) | simp)).trans o113_
  have z128_ := hb117_.size
  have B129_ := B115_.trans (hb117_.mono (by first | omega | (simp; omega) | simp))
  clear hb117_
  go_wp2_with fail
  refine (markIntS_any A52_ c53_ (ruleRow E xs l) 1 _ _ _ o122_ (by have e := ruleRow_len E xs l; omega) (by omega) (by omega)).mono ?_
  rintro e w130 ⟨rfl, om131_, hC132_⟩
  have o133_ := o118_.chg hC132_ (by first | omega | (simp; omega) | simp) (by omega)
  have o134_ := o119_.chg hC132_ (by first | omega | (simp; omega) | simp) (by omega)
  have o135_ := o120_.chg hC132_ (by first | omega | (simp; omega) | simp) (by omega)
  have o136_ := o121_.chg hC132_ (by first | omega | (simp; omega) | simp) (by omega)
  have o137_ := o123_.chg hC132_ (by first | omega | (simp; omega) | simp) (by omega)
  have o138_ := (hC132_.cell (p := ⟨w.heap.size, 0, none⟩) (by first | omega | (simp; omega) | simp) (by first | omega | (simp; omega) | simp)).trans o124_
  have o139_ := (hC132_.cell (p := ⟨w.heap.size, 1, none⟩) (by first | omega | (simp; omega) | simp) (by first | omega | (simp; omega) | simp)).trans o125_
  have o140_ := (hC132_.cell (p := ⟨w31.heap.size, 0, none⟩) (by first | omega | (simp; omega) | simp) (by first | omega | (simp; omega) | simp)).trans o126_
  have o141_ := (hC132_.cell (p := ⟨w31.heap.size, 1, none⟩) (by first | omega | (simp; omega) | simp) (by first | omega | (simp; omega) | simp)).trans o127_
  have z142_ := hC132_.size
  have B143_ := B129_.trans (hC132_.below (by omega) (by first | omega | (simp; omega) | simp))
  clear hC132_
  go_wp2_with fail
  refine (heldIntS_below A52_ c53_ (ruleRow E xs l).length 1 _ _ _ om131_.ints (by have e := ruleRow_len E xs l; omega) (by omega) (by omega)).mono ?_
  rintro e w144 ⟨rfl, hb144_⟩
  have o145_ := o133_.below hb144_ (by first | omega | (simp; omega) | simp)
  have o146_ := o134_.below hb144_ (by first | omega | (simp; omega) | simp)
  have o147_ := o135_.below hb144_ (by first | omega | (simp; omega) | simp)
  have o148_ := o136_.below hb144_ (by first | omega | (simp; omega) | simp)
  have o149_ := om131_.below hb144_ (by first | omega | (simp; omega) | simp)
  have o150_ := o137_.below hb144_ (by first | omega | (simp; omega) | simp)
  have o151_ := (hb144_.cell (p := ⟨w.heap.size, 0, none⟩) (by first | omega | (simp; omega) | simp)).trans o138_
  have o152_ := (hb144_.cell (p := ⟨w.heap.size, 1, none⟩) (by first | omega | (simp; omega) | simp)).trans o139_
  have o153_ := (hb144_.cell (p := ⟨w31.heap.size, 0, none⟩) (by first | omega | (simp; omega) | simp)).trans o140_
  have o154_ := (hb144_.cell (p := ⟨w31.heap.size, 1, none⟩) (by first | omega | (simp; omega) | simp)).trans o141_
  have z155_ := hb144_.size
  have B156_ := B143_.trans (hb144_.mono (by first | omega | (simp; omega) | simp))
  clear hb144_
  have h157_ : ¬ ((1 + ((ruleRow E xs l).length : Int)) < 0) := by omega
  have h157_d : decide ((1 + ((ruleRow E xs l).length : Int)) < 0) = false := decide_eq_false h157_
  go_wp2_with fail
  refine (toCase_any E A c xs _ _ _ o145_ (by first | omega | (simp; omega) | simp) (by omega)).mono ?_
  rintro e w158 ⟨A159_, c160_, rfl, ho161_, hb158_⟩
  have o162_ := o145_.below hb158_ (by first | omega | (simp; omega) | simp)
  have o163_ := o146_.below hb158_ (by first | omega | (simp; omega) | simp)
  have o164_ := o147_.below hb158_ (by first | omega | (simp; omega) | simp)
  have o165_ := o148_.below hb158_ (by first | omega | (simp; omega) | simp)
  have o166_ := o149_.below hb158_ (by first | omega | (simp; omega) | simp)
  have o167_ := o150_.below hb158_ (by first | omega | (simp; omega) | simp)
  have o168_ := (hb158_.cell (p := ⟨w.heap.size, 0, none⟩) (by first | omega | (simp; omega) | simp)).trans o151_
  have o169_ := (hb158_.cell (p := ⟨w.heap.size, 1, none⟩) (by first | omega | (simp; omega) | simp)).trans o152_
  have o170_ := (hb158_.cell (p := ⟨w31.heap.size, 0, none⟩) (by first | omega | (simp; omega) | simp)).trans o153_
  have o171_ := (hb158_.cell (p := ⟨w31.heap.size, 1, none⟩) (by first | omega | (simp; omega) | simp)).trans o154_
  have z172_ := hb158_.size
  have B173_ := B156_.trans (hb158_.mono (by first | omega | (simp; omega) | simp))
  clear hb158_
  go_wp2_with fail
  refine (implRuleAwards_any E A159_ c160_ xs l _ _ _ ho161_.ints (by first | omega | (simp; omega) | simp) (by omega) (by omega)).mono ?_
  rintro e w174 ⟨A175_, c176_, rfl, ho177_, hb174_⟩
  have o178_ := o162_.below hb174_ (by first | omega | (simp; omega) | simp)
  have o179_ := o163_.below hb174_ (by first | omega | (simp; omega) | simp)
  have o180_ := o164_.below hb174_ (by first | omega | (simp; omega) | simp)
  have o181_ := o165_.below hb174_ (by first | omega | (simp; omega) | simp)
  have o182_ := o166_.below hb174_ (by first | omega | (simp; omega) | simp)
  have o183_ := o167_.below hb174_ (by first | omega | (simp; omega) | simp)
  have o184_ := ho161_.below hb174_ (by first | omega | (simp; omega) | simp)
  have o185_ := (hb174_.cell (p := ⟨w.heap.size, 0, none⟩) (by first | omega | (simp; omega) | simp)).trans o168_
  have o186_ := (hb174_.cell (p := ⟨w.heap.size, 1, none⟩) (by first | omega | (simp; omega) | simp)).trans o169_
  have o187_ := (hb174_.cell (p := ⟨w31.heap.size, 0, none⟩) (by first | omega | (simp; omega) | simp)).trans o170_
  have o188_ := (hb174_.cell (p := ⟨w31.heap.size, 1, none⟩) (by first | omega | (simp; omega) | simp)).trans o171_
  have z189_ := hb174_.size
  have B190_ := B173_.trans (hb174_.mono (by first | omega | (simp; omega) | simp))
  clear hb174_
  go_wp2_with fail
  refine (eqIntS_same A175_ A22_ c176_ c23_ (ruleRow E xs l) _ _ _ _ _ ho177_.ints o180_.ints (by have e := ruleRow_len E xs l; omega)).mono ?_
  rintro e w191 ⟨rfl, hb191_⟩
  have o192_ := o178_.below hb191_ (by first | omega | (simp; omega) | simp)
  have o193_ := o179_.below hb191_ (by first | omega | (simp; omega) | simp)
  have o194_ := o180_.below hb191_ (by first | omega | (simp; omega) | simp)
  have o195_ := o181_.below hb191_ (by first | omega | (simp; omega) | simp)
  have o196_ := o182_.below hb191_ (by first | omega | (simp; omega) | simp)
  have o197_ := o183_.below hb191_ (by first | omega | (simp; omega) | simp)
  have o198_ := o184_.below hb191_ (by first | omega | (simp; omega) | simp)
  have o199_ := ho177_.below hb191_ (by first | omega | (simp; omega) | simp)
  have o200_ := (hb191_.cell (p := ⟨w.heap.size, 0, none⟩) (by first | omega | (simp; omega) | simp)).trans o185_
  have o201_ := (hb191_.cell (p := ⟨w.heap.size, 1, none⟩) (by first | omega | (simp; omega) | simp)).trans o186_
  have o202_ := (hb191_.cell (p := ⟨w31.heap.size, 0, none⟩) (by first | omega | (simp; omega) | simp)).trans o187_
  have o203_ := (hb191_.cell (p := ⟨w31.heap.size, 1, none⟩) (by first | omega | (simp; omega) | simp)).trans o188_
  have z204_ := hb191_.size
  have B205_ := B190_.trans (hb191_.mono (by first | omega | (simp; omega) | simp))
  clear hb191_
  go_wp2_with fail
  refine (heldIntS_below A52_ c53_ (ruleRow E xs l).length 1 _ _ _ o196_.ints (by have e := ruleRow_len E xs l; omega) (by omega) (by omega)).mono ?_
  rintro e w206 ⟨rfl, hb206_⟩
  have o207_ := o192_.below hb206_ (by first | omega | (simp; omega) | simp)
  have o208_ := o193_.below hb206_ (by first | omega | (simp; omega) | simp)
  have o209_ := o194_.below hb206_ (by first | omega | (simp; omega) | simp)
  have o210_ := o195_.below hb206_ (by first | omega | (simp; omega) | simp)
  have o211_ := o196_.below hb206_ (by first | omega | (simp; omega) | simp)
  have o212_ := o197_.below hb206_ (by first | omega | (simp; omega) | simp)
  have o213_ := o198_.below hb206_ (by first | omega | (simp; omega) | simp)
  have o214_ := o199_.below hb206_ (by first | omega | (simp; omega) | simp)
  have o215_ := (hb206_.cell (p := ⟨w.heap.size, 0, none⟩) (by first | omega | (simp; omega) | simp)).trans o200_
  have o216_ := (hb206_.cell (p := ⟨w.heap.size, 1, none⟩) (by first | omega | (simp; omega) | simp)).trans o201_
  have o217_ := (hb206_.cell (p := ⟨w31.heap.size, 0, none⟩) (by first | omega | (simp; omega) | simp)).trans o202_
  have o218_ := (hb206_.cell (p := ⟨w31.heap.size, 1, none⟩) (by first | omega | (simp; omega) | simp)).trans o203_
  have z219_ := hb206_.size
  have B220_ := B205_.trans (hb206_.mono (by first | omega | (simp; omega) | simp))
  clear hb206_
  have h221_ : ¬ ((1 + ((ruleRow E xs l).length : Int)) < 0) := by omega
  have h221_d : decide ((1 + ((ruleRow E xs l).length : Int)) < 0) = false := decide_eq_false h221_
  go_wp2
  go_ret
  exact ⟨ret_bool (by first | exact rfl | exact (decide_eq_false (by omega)).trans rfl), B220_⟩

set_option maxRecDepth 10000 in
set_option maxHeartbeats 400000 in
theorem exRuleAwards_big0 (E : Int) (A : Option Addr) (c : Nat) (xs : List Int) (l : List UInt8) (w : World)  (hls : ¬ l.length ≤ 1048576) (hms : l.length ≤ 9223372036854775807) :
    Calls Try.prog 8 #[.agg #[.int .i64 E, .slice A xs.length c], .string (S l)] w fun e w' => e = .returned (.bool true) ∧ Below w.heap.size w w' := by
  have B0 := (Below.refl w.heap.size w).alloc (Nat.le_refl _) (.cells #[.int .i64 E, .slice A xs.length c] 37)
  have hS1 := S_size
  go_enter Try.func8, Try.ntmps8
  go_wp2
  go_ret
  exact ⟨rfl, B0⟩

set_option maxRecDepth 10000 in
set_option maxHeartbeats 400000 in
theorem exRuleAwards_big1 (E : Int) (A : Option Addr) (c : Nat) (xs : List Int) (l : List UInt8) (w : World) (hls : l.length ≤ 1048576) (hl : ¬ xs.length ≤ 1048576) (hm : xs.length ≤ 9223372036854775807) :
    Calls Try.prog 8 #[.agg #[.int .i64 E, .slice A xs.length c], .string (S l)] w fun e w' => e = .returned (.bool true) ∧ Below w.heap.size w w' := by
  have B0 := (Below.refl w.heap.size w).alloc (Nat.le_refl _) (.cells #[.int .i64 E, .slice A xs.length c] 37)
  have hS1 := S_size
  go_enter Try.func8, Try.ntmps8
  go_wp2_with fail
  refine (szCase_no E A c xs.length 1048576 _ (by omega) (by omega) hm).mono ?_
  rintro e w1 ⟨rfl, hb1⟩
  go_wp2
  go_ret
  exact ⟨rfl, B0.trans (hb1.mono (by simp))⟩

theorem exRuleAwards_all (E : Int) (A : Option Addr) (c : Nat) (xs : List Int) (l : List UInt8) (w : World) (h : Ints w 0 w.heap.size A xs) (hms : l.length ≤ 9223372036854775807) (hm : xs.length ≤ 9223372036854775807) :
    Calls Try.prog 8 #[.agg #[.int .i64 E, .slice A xs.length c], .string (S l)] w fun e w' => e = .returned (.bool true) ∧ Below w.heap.size w w' := by
  by_cases hls : l.length ≤ 1048576
  · by_cases hl : xs.length ≤ 1048576
    · exact exRuleAwards_walk E A c xs l w h hls hl
    · exact exRuleAwards_big1 E A c xs l w hls hl hm
  · exact exRuleAwards_big0 E A c xs l w  hls hms

end Go.Proofs.Ytkkdolbbioeknaa
