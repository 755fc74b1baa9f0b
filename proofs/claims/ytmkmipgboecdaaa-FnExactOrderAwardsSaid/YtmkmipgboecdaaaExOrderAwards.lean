/-
  The exact law of OrderAwards returns true, and writes nothing that was there. No condition.
-/
import Derived.Test.YtmkmipgboecdaaaExactCase
import Derived.Test.YtmkmipgboecdaaaFx
import Derived.Test.YtmkmipgboecdaaaArr7
import Derived.Test.YtmkmipgboecdaaaSpec7C
import Derived.Test.YtmkmipgboecdaaaGame7I
import Derived.Deep.RegionHeld3
import Derived.Deep.Cut
namespace Go.Proofs.Ytmkmipgboecdaaa
open Go.RowKit

set_option maxRecDepth 10000 in
set_option maxHeartbeats 2000000 in
theorem exOrderAwards_walk (E : Int) (A : Option Addr) (c : Nat) (xs : List Int) (D : Option Addr) (d : Nat) (ys : List Int) (w : World) (h' : Ints w 0 w.heap.size D ys) (h : Ints w 0 w.heap.size A xs) (hl' : ys.length ≤ 1048576) (hl : xs.length ≤ 1048576) :
    Calls Try.prog 11 #[.agg #[.int .i64 E, .slice A xs.length c], .slice D ys.length d] w fun e w' => e = .returned (.bool true) ∧ Below w.heap.size w w' := by
  go_enter Try.func11, Try.ntmps11
  have Htrue : Hid True := trivial
  have o1_ := h.alloc (by first | omega | (simp; omega) | simp) (.cells #[.int .i64 E, .slice A xs.length c] 46)
  have o2_ := h'.alloc (by first | omega | (simp; omega) | simp) (.cells #[.int .i64 E, .slice A xs.length c] 46)
  have B3_ := (Below.refl w.heap.size w).alloc (Nat.le_refl _) (.cells #[.int .i64 E, .slice A xs.length c] 46)
  have a4_ : (w.alloc (.cells #[.int .i64 E, .slice A xs.length c] 46)).cell? ⟨w.heap.size, 0, none⟩ = some (.int .i64 E) := by simp [go_sem]
  have a5_ : (w.alloc (.cells #[.int .i64 E, .slice A xs.length c] 46)).cell? ⟨w.heap.size, 1, none⟩ = some (.slice A xs.length c) := by simp [go_sem]
  go_wp2_with fail
  refine (szCase_yes E A c xs.length 1048576 _ (by omega) (by omega)).mono ?_
  rintro e w6 ⟨rfl, hb6_⟩
  have o7_ := o1_.below hb6_ (by first | omega | (simp; omega) | simp)
  have o8_ := o2_.below hb6_ (by first | omega | (simp; omega) | simp)
  have o9_ := (hb6_.cell (p := ⟨w.heap.size, 0, none⟩) (by first | omega | (simp; omega) | simp)).trans a4_
  have o10_ := (hb6_.cell (p := ⟨w.heap.size, 1, none⟩) (by first | omega | (simp; omega) | simp)).trans a5_
  have z11_ := hb6_.size
  try simp at z11_
  have B12_ := B3_.trans (hb6_.mono (by first | omega | (simp; omega) | simp))
  clear hb6_
  have h13_ : ¬ ((1048576 - (xs.length : Int)) < 0) := by omega
  have h13_d : decide ((1048576 - (xs.length : Int)) < 0) = false := decide_eq_false h13_
  go_wp2_with fail
  refine (toCase_any E A c xs _ _ _ o7_ (by first | omega | (simp; omega) | simp) (by omega)).mono ?_
  rintro e w14 ⟨A15_, c16_, rfl, ho17_, hb14_⟩
  have o18_ := o7_.below hb14_ (by first | omega | (simp; omega) | simp)
  have o19_ := o8_.below hb14_ (by first | omega | (simp; omega) | simp)
  have o20_ := (hb14_.cell (p := ⟨w.heap.size, 0, none⟩) (by first | omega | (simp; omega) | simp)).trans o9_
  have o21_ := (hb14_.cell (p := ⟨w.heap.size, 1, none⟩) (by first | omega | (simp; omega) | simp)).trans o10_
  have z22_ := hb14_.size
  have B23_ := B12_.trans (hb14_.mono (by first | omega | (simp; omega) | simp))
  clear hb14_
  go_wp2_with fail
  refine (toIntS_any D d ys _ _ _ o19_ (by first | omega | (simp; omega) | simp) (by omega)).mono ?_
  rintro e w24 ⟨A25_, c26_, rfl, ho27_, hb24_⟩
  have o28_ := o18_.below hb24_ (by first | omega | (simp; omega) | simp)
  have o29_ := o19_.below hb24_ (by first | omega | (simp; omega) | simp)
  have o30_ := ho17_.below hb24_ (by first | omega | (simp; omega) | simp)
  have o31_ := (hb24_.cell (p := ⟨w.heap.size, 0, none⟩) (by first | omega | (simp; omega) | simp)).trans o20_
  have o32_ := (hb24_.cell (p := ⟨w.heap.size, 1, none⟩) (by first | omega | (simp; omega) | simp)).trans o21_
  have z33_ := hb24_.size
  have B34_ := B23_.trans (hb24_.mono (by first | omega | (simp; omega) | simp))
  clear hb24_
  go_wp2_with fail
  refine (specOrderAwards_any E A15_ c16_ xs A25_ c26_ ys _ _ _ o30_.ints (by first | omega | (simp; omega) | simp) (by omega) _ _ ho27_.ints (by first | omega | (simp; omega) | simp) (by omega)).mono ?_
  rintro e w35 ⟨A36_, c37_, rfl, ho38_, hb35_⟩
  have o39_ := o28_.below hb35_ (by first | omega | (simp; omega) | simp)
  have o40_ := o29_.below hb35_ (by first | omega | (simp; omega) | simp)
  have o41_ := o30_.below hb35_ (by first | omega | (simp; omega) | simp)
  have o42_ := ho27_.below hb35_ (by first | omega | (simp; omega) | simp)
  have o43_ := (hb35_.cell (p := ⟨w.heap.size, 0, none⟩) (by first | omega | (simp; omega) | simp)).trans o31_
  have o44_ := (hb35_.cell (p := ⟨w.heap.size, 1, none⟩) (by first | omega | (simp; omega) | simp)).trans o32_
  have z45_ := hb35_.size
  have B46_ := B34_.trans (hb35_.mono (by first | omega | (simp; omega) | simp))
  clear hb35_
  go_wp2_with fail
  refine (toCase_any E A c xs _ _ _ o39_ (by first | omega | (simp; omega) | simp) (by omega)).mono ?_
  rintro e w47 ⟨A48_, c49_, rfl, ho50_, hb47_⟩
  have o51_ := o39_.below hb47_ (by first | omega | (simp; omega) | simp)
  have o52_ := o40_.below hb47_ (by first | omega | (simp; omega) | simp)
  have o53_ := o41_.below hb47_ (by first | omega | (simp; omega) | simp)
  have o54_ := o42_.below hb47_ (by first | omega | (simp; omega) | simp)
  have o55_ := ho38_.below hb47_ (by first | omega | (simp; omega) | simp)
  have o56_ := (hb47_.cell (p := ⟨w.heap.size, 0, none⟩) (by first | omega | (simp; omega) | simp)).trans o43_
  have o57_ := (hb47_.cell (p := ⟨w.heap.size, 1, none⟩) (by first | omega | (simp; omega) | simp)).trans o44_
  have z58_ := hb47_.size
  have B59_ := B46_.trans (hb47_.mono (by first | omega | (simp; omega) | simp))
  clear hb47_
  have o60_ := o51_.alloc (by first | omega | (simp; omega) | simp) (.cells #[.int .i64 E, .slice A48_ xs.length c49_] 25)
  have o61_ := o52_.alloc (by first | omega | (simp; omega) | simp) (.cells #[.int .i64 E, .slice A48_ xs.length c49_] 25)
  have o62_ := o53_.alloc (by first | omega | (simp; omega) | simp) (.cells #[.int .i64 E, .slice A48_ xs.length c49_] 25)
  have o63_ := o54_.alloc (by first | omega | (simp; omega) | simp) (.cells #[.int .i64 E, .slice A48_ xs.length c49_] 25)
  have o64_ := o55_.alloc (by first | omega | (simp; omega) | simp) (.cells #[.int .i64 E, .slice A48_ xs.length c49_] 25)
  have o65_ := ho50_.alloc (by first | omega | (simp; omega) | simp) (.cells #[.int .i64 E, .slice A48_ xs.length c49_] 25)
  have o66_ := cell_alloc (o := (.cells #[.int .i64 E, .slice A48_ xs.length c49_] 25)) o56_ (by first | omega | (simp; omega) | simp)
  have o67_ := cell_alloc (o := (.cells #[.int .i64 E, .slice A48_ xs.length c49_] 25)) o57_ (by first | omega | (simp; omega) | simp)
  have B68_ := B59_.alloc (by first | omega | (simp; omega) | simp) (.cells #[.int .i64 E, .slice A48_ xs.length c49_] 25)
  have a69_ : (w47.alloc (.cells #[.int .i64 E, .slice A48_ xs.length c49_] 25)).cell? ⟨w47.heap.size, 0, none⟩ = some (.int .i64 E) := by simp [go_sem]
  have a70_ : (w47.alloc (.cells #[.int .i64 E, .slice A48_ xs.length c49_] 25)).cell? ⟨w47.heap.size, 1, none⟩ = some (.slice A48_ xs.length c49_) := by simp [go_sem]
  go_wp2_with fail
  refine (toIntS_any D d ys _ _ _ o61_ (by first | omega | (simp; omega) | simp) (by omega)).mono ?_
  rintro e w71 ⟨A72_, c73_, rfl, ho74_, hb71_⟩
  have ho74_ : Own w71 (w47.heap.size + 1) w71.heap.size A72_ ys := ho74_.more (by simp) (Nat.le_refl _)
  have o75_ := o60_.below hb71_ (by first | omega | (simp; omega) | simp)
  have o76_ := o61_.below hb71_ (by first | omega | (simp; omega) | simp)
  have o77_ := o62_.below hb71_ (by first | omega | (simp; omega) | simp)
  have o78_ := o63_.below hb71_ (by first | omega | (simp; omega) | simp)
  have o79_ := o64_.below hb71_ (by first | omega | (simp; omega) | simp)
  have o80_ := o65_.below hb71_ (by first | omega | (simp; omega) | simp)
  have o81_ := (hb71_.cell (p := ⟨w.heap.size, 0, none⟩) (by first | omega | (simp; omega) | simp)).trans o66_
  have o82_ := (hb71_.cell (p := ⟨w.heap.size, 1, none⟩) (by first | omega | (simp; omega) | simp)).trans o67_
  have o83_ := (hb71_.cell (p := ⟨w47.heap.size, 0, none⟩) (by first | omega | (simp; omega) | simp)).trans a69_
  have o84_ := (hb71_.cell (p := ⟨w47.heap.size, 1, none⟩) (by first | omega | (simp; omega) | simp)).trans a70_
  have z85_ := hb71_.size
  try simp at z85_
  have B86_ := B68_.trans (hb71_.mono (by first | omega | (simp; omega) | simp))
  clear hb71_
  go_wp2_with fail
  refine (implOrderAwards_any E A48_ c49_ xs A72_ c73_ ys _ _ _ o80_.ints (by first | omega | (simp; omega) | simp) (by omega) _ _ ho74_.ints (by first | omega | (simp; omega) | simp) (by omega)).mono ?_
  rintro e w87 ⟨A88_, c89_, rfl, ho90_, hb87_⟩
  have o91_ := o75_.below hb87_ (by first | omega | (simp; omega) | simp)
  have o92_ := o76_.below hb87_ (by first | omega | (simp; omega) | simp)
  have o93_ := o77_.below hb87_ (by first | omega | (simp; omega) | simp)
  have o94_ := o78_.below hb87_ (by first | omega | (simp; omega) | simp)
  have o95_ := o79_.below hb87_ (by first | omega | (simp; omega) | simp)
  have o96_ := o80_.below hb87_ (by first | omega | (simp; omega) | simp)
  have o97_ := ho74_.below hb87_ (by first | omega | (simp; omega) | simp)
  have o98_ := (hb87_.cell (p := ⟨w.heap.size, 0, none⟩) (by first | omega | (simp; omega) | simp)).trans o81_
  have o99_ := (hb87_.cell (p := ⟨w.heap.size, 1, none⟩) (by first | omega | (simp; omega) | simp)).trans o82_
  have o100_ := (hb87_.cell (p := ⟨w47.heap.size, 0, none⟩) (by first | omega | (simp; omega) | simp)).trans o83_
  have o101_ := (hb87_.cell (p := ⟨w47.heap.size, 1, none⟩) (by first | omega | (simp; omega) | simp)).trans o84_
  have z102_ := hb87_.size
  have B103_ := B86_.trans (hb87_.mono (by first | omega | (simp; omega) | simp))
  clear hb87_
  go_wp2_with fail
  refine (eqIntS_same A88_ A36_ c89_ c37_ (ordRow E xs ys) _ _ _ _ _ ho90_.ints o95_.ints (by have e := ordRow_len E xs ys; omega)).mono ?_
  rintro e w104 ⟨rfl, hb104_⟩
  have o105_ := o91_.below hb104_ (by first | omega | (simp; omega) | simp)
  have o106_ := o92_.below hb104_ (by first | omega | (simp; omega) | simp)
  have o107_ := o93_.below hb104_ (by first | omega | (simp; omega) | simp)
  have o108_ := o94_.below hb104_ (by first | omega | (simp; omega) | simp)
  have o109_ := o95_.below hb104_ (by first | omega | (simp; omega) | simp)
  have o110_ := o96_.below hb104_ (by first | omega | (simp; omega) | simp)
  have o111_ := o97_.below hb104_ (by first | omega | (simp; omega) | simp)
  have o112_ := ho90_.below hb104_ (by first | omega | (simp; omega) | simp)
  have o113_ := (hb104_.cell (p := ⟨w.heap.size, 0, none⟩) (by first | omega | (simp; omega) | simp)).trans o98_
  have o114_ := (hb104_.cell (p := ⟨w.heap.size, 1, none⟩) (by first | omega | (simp; omega) | simp)).trans o99_
  have o115_ := (hb104_.cell (p := ⟨w47.heap.size, 0, none⟩) (by first | omega | (simp; omega) | simp)).trans o100_
  have o116_ := (hb104_.cell (p := ⟨w47.heap.size, 1, none⟩) (by first | omega | (simp; omega) | simp)).trans o101_
  have z117_ := hb104_.size
  have B118_ := B103_.trans (hb104_.mono (by first | omega | (simp; omega) | simp))
  clear hb104_
  have g134_ : w.heap.size < w104.heap.size := (by first | omega | (simp; omega) | simp)
  have g135_ : w47.heap.size < w104.heap.size := (by first | omega | (simp; omega) | simp)
  have g136_ : w.heap.size ≤ w104.heap.size := (by first | omega | (simp; omega) | simp)
  have g137_ : w.heap.size ≤ w104.heap.size := (by first | omega | (simp; omega) | simp)
  have g138_ : w14.heap.size ≤ w104.heap.size := (by first | omega | (simp; omega) | simp)
  have g139_ : w24.heap.size ≤ w104.heap.size := (by first | omega | (simp; omega) | simp)
  have g140_ : w35.heap.size ≤ w104.heap.size := (by first | omega | (simp; omega) | simp)
  have g141_ : w47.heap.size ≤ w104.heap.size := (by first | omega | (simp; omega) | simp)
  have g142_ : w71.heap.size ≤ w104.heap.size := (by first | omega | (simp; omega) | simp)
  have g143_ : w87.heap.size ≤ w104.heap.size := (by first | omega | (simp; omega) | simp)
  have g144_ : w.heap.size ≤ w104.heap.size := (by first | omega | (simp; omega) | simp)
  go_wp2_with fail
  refine wp_region_held_drew (S := (fun w' : World => Below w.heap.size w w' ∧ w104.heap.size ≤ w'.heap.size ∧ Ints w' (0) (w.heap.size) A xs ∧ Ints w' (0) (w.heap.size) D ys ∧ Own w' (w6.heap.size) (w14.heap.size) A15_ xs ∧ Own w' (w14.heap.size) (w24.heap.size) A25_ ys ∧ Own w' (w24.heap.size) (w35.heap.size) A36_ (ordRow E xs ys) ∧ Own w' (w35.heap.size) (w47.heap.size) A48_ xs ∧ Own w' (w47.heap.size + 1) (w71.heap.size) A72_ ys ∧ Own w' (w71.heap.size) (w87.heap.size) A88_ (ordRow E xs ys) ∧ w'.cell? ⟨w.heap.size, 0, none⟩ = some (.int .i64 E) ∧ w'.cell? ⟨w.heap.size, 1, none⟩ = some (.slice A xs.length c) ∧ w'.cell? ⟨w47.heap.size, 0, none⟩ = some (.int .i64 E) ∧ w'.cell? ⟨w47.heap.size, 1, none⟩ = some (.slice A48_ xs.length c49_) ∧ w104.heap.size ≤ w'.heap.size)) (by kernel_rfl) ⟨B118_.drew, by exact (by first | omega | (simp; omega) | simp), o105_, o106_, o107_, o108_, o109_, o110_, o111_, o112_, o113_, o114_, o115_, o116_, Nat.le_refl _⟩ (fun hHeld => ?_)
  refine wpAnyH_take (i := 0) (oi := ?oi1) (v := ?vv1) ?hi1 ?hs1 ?hf1 ?ha1 ?hq1 ?hy1 hHeld ?hr1
  case hi1 => (simp only [List.getElem?_toArray, List.getElem?_cons_zero]; exact rfl)
  case hs1 => kernel_rfl
  case hf1 => kernel_rfl
  case ha1 => kernel_rfl
  case hq1 => exact fun _ _ _ h => h
  case hy1 =>
    refine Or.inl ⟨by rfl, ?_⟩
    intro w' hSw
    try dsimp only at hSw
    go_simp
    first | done | with_reducible rfl
  simp only [Act.put, List.setIfInBounds_toArray, List.set_cons_succ, List.set_cons_zero]
  refine wpAnyH_take (i := 1) (oi := ?oi2) (v := ?vv2) ?hi2 ?hs2 ?hf2 ?ha2 ?hq2 ?hy2 hHeld ?hr2
  case hi2 => (simp only [List.getElem?_toArray, List.getElem?_cons_succ, List.getElem?_cons_zero]; exact rfl)
  case hs2 => kernel_rfl
  case hf2 => kernel_rfl
  case ha2 => kernel_rfl
  case hq2 => exact fun _ _ _ h => h
  case hy2 =>
    refine Or.inl ⟨by rfl, ?_⟩
    intro w' hSw
    try dsimp only at hSw
    go_simp
    first | done | with_reducible rfl
  simp only [Act.put, List.setIfInBounds_toArray, List.set_cons_succ, List.set_cons_zero]
  refine wpAnyH_ready (rs := [2]) (by kernel_rfl) (by simp) ?_
  refine AllReadyH.cons rfl (fun K hK => ?_) AllReadyH.nil
  go_simp
  go_at_call 51
  obtain ⟨BB, zz, k122_, k123_, k124_, k125_, k126_, k127_, k128_, k129_, k130_, k131_, k132_, k133_, zw⟩ := hHeld
  (with_reducible refine (toCase_any E A c xs _ _ _ k122_ (by first | omega | (simp; omega) | simp) (by omega)).mono ?_)
  rintro e w145 ⟨A119_, c120_, rfl, ho121_, hb9⟩
  have ho121_ := ho121_.more (lo' := w104.heap.size) (by omega) (Nat.le_refl _)
  refine hK.out _ _ ⟨BB.trans (hb9.mono (by omega)), Nat.le_trans zz hb9.size, k122_.below hb9 (by first | omega | (simp; omega) | simp), k123_.below hb9 (by first | omega | (simp; omega) | simp), k124_.below hb9 (by first | omega | (simp; omega) | simp), k125_.below hb9 (by first | omega | (simp; omega) | simp), k126_.below hb9 (by first | omega | (simp; omega) | simp), k127_.below hb9 (by first | omega | (simp; omega) | simp), k128_.below hb9 (by first | omega | (simp; omega) | simp), k129_.below hb9 (by first | omega | (simp; omega) | simp), (hb9.cell (p := ⟨w.heap.size, 0, none⟩) (by first | omega | (simp; omega) | simp)).trans k130_, (hb9.cell (p := ⟨w.heap.size, 1, none⟩) (by first | omega | (simp; omega) | simp)).trans k131_, (hb9.cell (p := ⟨w47.heap.size, 0, none⟩) (by first | omega | (simp; omega) | simp)).trans k132_, (hb9.cell (p := ⟨w47.heap.size, 1, none⟩) (by first | omega | (simp; omega) | simp)).trans k133_, Nat.le_trans zw hb9.size⟩ (fun hHeld => ?_)
  clear hb9 zw k133_ k132_ k131_ k130_ k129_ k128_ k127_ k126_ k125_ k124_ k123_ k122_ zz BB
  clear hK K
  try simp only [Act.put, List.setIfInBounds_toArray, List.set_cons_zero, List.set_cons_succ]
  refine wpAnyH_ready (rs := [3]) (by kernel_rfl) (by simp) ?_
  refine AllReadyH.cons rfl (fun K hK => ?_) AllReadyH.nil
  go_simp
  go_at_call 54
  obtain ⟨BB, zz, k122_, k123_, k124_, k125_, k126_, k127_, k128_, k129_, k130_, k131_, k132_, k133_, zw⟩ := hHeld
  (with_reducible refine (eqCase_yes E A48_ A119_ c49_ c120_ xs _ _ _ _ _ k127_.ints ho121_.ints (by first | omega | (simp; omega) | simp) (by first | omega | (simp; omega) | simp) (by omega)).mono ?_)
  rintro e w146 ⟨rfl, hb9⟩
  have ho121_ := ho121_.below hb9 (Nat.le_refl _)
  have ho121_ := ho121_.more (Nat.le_refl _) hb9.size
  refine hK.out _ _ ⟨BB.trans (hb9.mono (by omega)), Nat.le_trans zz hb9.size, k122_.below hb9 (by first | omega | (simp; omega) | simp), k123_.below hb9 (by first | omega | (simp; omega) | simp), k124_.below hb9 (by first | omega | (simp; omega) | simp), k125_.below hb9 (by first | omega | (simp; omega) | simp), k126_.below hb9 (by first | omega | (simp; omega) | simp), k127_.below hb9 (by first | omega | (simp; omega) | simp), k128_.below hb9 (by first | omega | (simp; omega) | simp), k129_.below hb9 (by first | omega | (simp; omega) | simp), (hb9.cell (p := ⟨w.heap.size, 0, none⟩) (by first | omega | (simp; omega) | simp)).trans k130_, (hb9.cell (p := ⟨w.heap.size, 1, none⟩) (by first | omega | (simp; omega) | simp)).trans k131_, (hb9.cell (p := ⟨w47.heap.size, 0, none⟩) (by first | omega | (simp; omega) | simp)).trans k132_, (hb9.cell (p := ⟨w47.heap.size, 1, none⟩) (by first | omega | (simp; omega) | simp)).trans k133_, Nat.le_trans zw hb9.size⟩ (fun hHeld => ?_)
  clear hb9 zw k133_ k132_ k131_ k130_ k129_ k128_ k127_ k126_ k125_ k124_ k123_ k122_ zz BB
  clear hK K
  try simp only [Act.put, List.setIfInBounds_toArray, List.set_cons_zero, List.set_cons_succ]
  refine wpAnyH_take (i := 4) (oi := ?oi3) (v := ?vv3) ?hi3 ?hs3 ?hf3 ?ha3 ?hq3 ?hy3 hHeld ?hr3
  case hi3 => (simp only [List.getElem?_toArray, List.getElem?_cons_succ, List.getElem?_cons_zero]; exact rfl)
  case hs3 => kernel_rfl
  case hf3 => kernel_rfl
  case ha3 => kernel_rfl
  case hq3 => exact fun _ _ _ h => h
  case hy3 =>
    refine Or.inl ⟨by rfl, ?_⟩
    intro w' hSw
    try dsimp only at hSw
    go_simp
    first | done | with_reducible rfl
  simp only [Act.put, List.setIfInBounds_toArray, List.set_cons_succ, List.set_cons_zero]
  refine wpAnyH_done (by kernel_rfl) ?_ _
  obtain ⟨BB, zz, k122_, k123_, k124_, k125_, k126_, k127_, k128_, k129_, k130_, k131_, k132_, k133_, zw⟩ := hHeld
  have k147_ := BB
  clear BB
  have k148_ := zz
  clear zz
  have k149_ := zw
  clear zw
  go_wp2_with fail
  refine (toIntS_any D d ys _ _ _ k123_ (by first | omega | (simp; omega) | simp) (by omega)).mono ?_
  rintro e w150 ⟨A151_, c152_, rfl, ho153_, hb150_⟩
  have o154_ := k122_.below hb150_ (by first | omega | (simp; omega) | simp)
  have o155_ := k123_.below hb150_ (by first | omega | (simp; omega) | simp)
  have o156_ := k124_.below hb150_ (by first | omega | (simp; omega) | simp)
  have o157_ := k125_.below hb150_ (by first | omega | (simp; omega) | simp)
  have o158_ := k126_.below hb150_ (by first | omega | (simp; omega) | simp)
  have o159_ := k127_.below hb150_ (by first | omega | (simp; omega) | simp)
  have o160_ := k128_.below hb150_ (by first | omega | (simp; omega) | simp)
  have o161_ := k129_.below hb150_ (by first | omega | (simp; omega) | simp)
  have o162_ := ho121_.below hb150_ (by first | omega | (simp; omega) | simp)
  have o163_ := (hb150_.cell (p := ⟨w.heap.size, 0, none⟩) (by first | omega | (simp; omega) | simp)).trans k130_
  have o164_ := (hb150_.cell (p := ⟨w.heap.size, 1, none⟩) (by first | omega | (simp; omega) | simp)).trans k131_
  have o165_ := (hb150_.cell (p := ⟨w47.heap.size, 0, none⟩) (by first | omega | (simp; omega) | simp)).trans k132_
  have o166_ := (hb150_.cell (p := ⟨w47.heap.size, 1, none⟩) (by first | omega | (simp; omega) | simp)).trans k133_
  have z167_ := hb150_.size
  have B168_ := k147_.trans (hb150_.mono (by first | omega | (simp; omega) | simp))
  clear hb150_
  go_wp2_with fail
  refine (eqIntS_same A72_ A151_ c73_ c152_ ys _ _ _ _ _ o160_.ints ho153_.ints (by omega)).mono ?_
  rintro e w169 ⟨rfl, hb169_⟩
  have o170_ := o154_.below hb169_ (by first | omega | (simp; omega) | simp)
  have o171_ := o155_.below hb169_ (by first | omega | (simp; omega) | simp)
  have o172_ := o156_.below hb169_ (by first | omega | (simp; omega) | simp)
  have o173_ := o157_.below hb169_ (by first | omega | (simp; omega) | simp)
  have o174_ := o158_.below hb169_ (by first | omega | (simp; omega) | simp)
  have o175_ := o159_.below hb169_ (by first | omega | (simp; omega) | simp)
  have o176_ := o160_.below hb169_ (by first | omega | (simp; omega) | simp)
  have o177_ := o161_.below hb169_ (by first | omega | (simp; omega) | simp)
  have o178_ := o162_.below hb169_ (by first | omega | (simp; omega) | simp)
  have o179_ := ho153_.below hb169_ (by first | omega | (simp; omega) | simp)
  have o180_ := (hb169_.cell (p := ⟨w.heap.size, 0, none⟩) (by first | omega | (simp; omega) | simp)).trans o163_
  have o181_ := (hb169_.cell (p := ⟨w.heap.size, 1, none⟩) (by first | omega | (simp; omega) | simp)).trans o164_
  have o182_ := (hb169_.cell (p := ⟨w47.heap.size, 0, none⟩) (by first | omega | (simp; omega) | simp)).trans o165_
  have o183_ := (hb169_.cell (p := ⟨w47.heap.size, 1, none⟩) (by first | omega | (simp; omega) | simp)).trans o166_
  have z184_ := hb169_.size
  have B185_ := B168_.trans (hb169_.mono (by first | omega | (simp; omega) | simp))
  clear hb169_
  go_wp2_with fail
  refine (markCase_any E A48_ c49_ xs 1 _ _ _ o175_ (by first | omega | (simp; omega) | simp) (by omega) (by omega) (by omega)).mono ?_
  rintro e w186 ⟨rfl, om187_, hC188_⟩
  have o189_ := o170_.chg hC188_ (by first | omega | (simp; omega) | simp) (by omega)
  have o190_ := o171_.chg hC188_ (by first | omega | (simp; omega) | simp) (by omega)
  have o191_ := o172_.chg hC188_ (by first | omega | (simp; omega) | simp) (by omega)
  have o192_ := o173_.chg hC188_ (by first | omega | (simp; omega) | simp) (by omega)
  have o193_ := o174_.chg hC188_ (by first | omega | (simp; omega) | simp) (by omega)
  have o194_ := o176_.chg hC188_ (by first | omega | (simp; omega) | simp) (by omega)
  have o195_ := o177_.chg hC188_ (by first | omega | (simp; omega) | simp) (by omega)
  have o196_ := o178_.chg hC188_ (by first | omega | (simp; omega) | simp) (by omega)
  have o197_ := o179_.chg hC188_ (by first | omega | (simp; omega) | simp) (by omega)
  have o198_ := (hC188_.cell (p := ⟨w.heap.size, 0, none⟩) (by first | omega | (simp; omega) | simp) (by first | omega | (simp; omega) | simp)).trans o180_
  have o199_ := (hC188_.cell (p := ⟨w.heap.size, 1, none⟩) (by first | omega | (simp; omega) | simp) (by first | omega | (simp; omega) | simp)).trans o181_
  have o200_ := (hC188_.cell (p := ⟨w47.heap.size, 0, none⟩) (by first | omega | (simp; omega) | simp) (by first | omega | (simp; omega) | simp)).trans o182_
  have o201_ := (hC188_.cell (p := ⟨w47.heap.size, 1, none⟩) (by first | omega | (simp; omega) | simp) (by first | omega | (simp; omega) | simp)).trans o183_
  have z202_ := hC188_.size
  have B203_ := B185_.trans (hC188_.below (by omega) (by first | omega | (simp; omega) | simp))
  clear hC188_
  go_wp2_with fail
  refine (markIntS_any A72_ c73_ ys (1 + (xs.length : Int)) _ _ _ o194_ (by omega) (by omega) (by omega)).mono ?_
  rintro e w204 ⟨rfl, om205_, hC206_⟩
  have o207_ := o189_.chg hC206_ (by first | omega | (simp; omega) | simp) (by omega)
  have o208_ := o190_.chg hC206_ (by first | omega | (simp; omega) | simp) (by omega)
  have o209_ := o191_.chg hC206_ (by first | omega | (simp; omega) | simp) (by omega)
  have o210_ := o192_.chg hC206_ (by first | omega | (simp; omega) | simp) (by omega)
  have o211_ := o193_.chg hC206_ (by first | omega | (simp; omega) | simp) (by omega)
  have o212_ := om187_.chg hC206_ (by first | omega | (simp; omega) | simp) (by omega)
  have o213_ := o195_.chg hC206_ (by first | omega | (simp; omega) | simp) (by omega)
  have o214_ := o196_.chg hC206_ (by first | omega | (simp; omega) | simp) (by omega)
  have o215_ := o197_.chg hC206_ (by first | omega | (simp; omega) | simp) (by omega)
  have o216_ := (hC206_.cell (p := ⟨w.heap.size, 0, none⟩) (by first | omega | (simp; omega) | simp) (by first | omega | (simp; omega) | simp)).trans o198_
  have o217_ := (hC206_.cell (p := ⟨w.heap.size, 1, none⟩) (by first | omega | (simp; omega) | simp) (by first | omega | (simp; omega) | simp)).trans o199_
  have o218_ := (hC206_.cell (p := ⟨w47.heap.size, 0, none⟩) (by first | omega | (simp; omega) | simp) (by first | omega | (simp; omega) | simp)).trans o200_
  have o219_ := (hC206_.cell (p := ⟨w47.heap.size, 1, none⟩) (by first | omega | (simp; omega) | simp) (by first | omega | (simp; omega) | simp)).trans o201_
  have z220_ := hC206_.size
  have B221_ := B203_.trans (hC206_.below (by omega) (by first | omega | (simp; omega) | simp))
  clear hC206_
  have h222_ : ¬ (((1 + (xs.length : Int)) + (ys.length : Int)) < 0) := by omega
  have h222_d : decide (((1 + (xs.length : Int)) + (ys.length : Int)) < 0) = false := decide_eq_false h222_
  go_wp2_with fail
  refine (eqIntS_same A88_ A36_ c89_ c37_ (ordRow E xs ys) _ _ _ _ _ o213_.ints o211_.ints (by have e := ordRow_len E xs ys; omega)).mono ?_
  rintro e w223 ⟨rfl, hb223_⟩
  have o224_ := o207_.below hb223_ (by first | omega | (simp; omega) | simp)
  have o225_ := o208_.below hb223_ (by first | omega | (simp; omega) | simp)
  have o226_ := o209_.below hb223_ (by first | omega | (simp; omega) | simp)
  have o227_ := o210_.below hb223_ (by first | omega | (simp; omega) | simp)
  have o228_ := o211_.below hb223_ (by first | omega | (simp; omega) | simp)
  have o229_ := o212_.below hb223_ (by first | omega | (simp; omega) | simp)
  have o230_ := om205_.below hb223_ (by first | omega | (simp; omega) | simp)
  have o231_ := o213_.below hb223_ (by first | omega | (simp; omega) | simp)
  have o232_ := o214_.below hb223_ (by first | omega | (simp; omega) | simp)
  have o233_ := o215_.below hb223_ (by first | omega | (simp; omega) | simp)
  have o234_ := (hb223_.cell (p := ⟨w.heap.size, 0, none⟩) (by first | omega | (simp; omega) | simp)).trans o216_
  have o235_ := (hb223_.cell (p := ⟨w.heap.size, 1, none⟩) (by first | omega | (simp; omega) | simp)).trans o217_
  have o236_ := (hb223_.cell (p := ⟨w47.heap.size, 0, none⟩) (by first | omega | (simp; omega) | simp)).trans o218_
  have o237_ := (hb223_.cell (p := ⟨w47.heap.size, 1, none⟩) (by first | omega | (simp; omega) | simp)).trans o219_
  have z238_ := hb223_.size
  have B239_ := B221_.trans (hb223_.mono (by first | omega | (simp; omega) | simp))
  clear hb223_
  go_wp2_with fail
  refine (markIntS_any A88_ c89_ (ordRow E xs ys) 1 _ _ _ o231_ (by have e := ordRow_len E xs ys; omega) (by omega) (by omega)).mono ?_
  rintro e w240 ⟨rfl, om241_, hC242_⟩
  have o243_ := o224_.chg hC242_ (by first | omega | (simp; omega) | simp) (by omega)
  have o244_ := o225_.chg hC242_ (by first | omega | (simp; omega) | simp) (by omega)
  have o245_ := o226_.chg hC242_ (by first | omega | (simp; omega) | simp) (by omega)
  have o246_ := o227_.chg hC242_ (by first | omega | (simp; omega) | simp) (by omega)
  have o247_ := o228_.chg hC242_ (by first | omega | (simp; omega) | simp) (by omega)
  have o248_ := o229_.chg hC242_ (by first | omega | (simp; omega) | simp) (by omega)
  have o249_ := o230_.chg hC242_ (by first | omega | (simp; omega) | simp) (by omega)
  have o250_ := o232_.chg hC242_ (by first | omega | (simp; omega) | simp) (by omega)
  have o251_ := o233_.chg hC242_ (by first | omega | (simp; omega) | simp) (by omega)
  have o252_ := (hC242_.cell (p := ⟨w.heap.size, 0, none⟩) (by first | omega | (simp; omega) | simp) (by first | omega | (simp; omega) | simp)).trans o234_
  have o253_ := (hC242_.cell (p := ⟨w.heap.size, 1, none⟩) (by first | omega | (simp; omega) | simp) (by first | omega | (simp; omega) | simp)).trans o235_
  have o254_ := (hC242_.cell (p := ⟨w47.heap.size, 0, none⟩) (by first | omega | (simp; omega) | simp) (by first | omega | (simp; omega) | simp)).trans o236_
  have o255_ := (hC242_.cell (p := ⟨w47.heap.size, 1, none⟩) (by first | omega | (simp; omega) | simp) (by first | omega | (simp; omega) | simp)).trans o237_
  have z256_ := hC242_.size
  have B257_ := B239_.trans (hC242_.below (by omega) (by first | omega | (simp; omega) | simp))
  clear hC242_
  go_wp2_with fail
  refine (heldIntS_below A88_ c89_ (ordRow E xs ys).length 1 _ _ _ om241_.ints (by have e := ordRow_len E xs ys; omega) (by omega) (by omega)).mono ?_
  rintro e w258 ⟨rfl, hb258_⟩
  have o259_ := o243_.below hb258_ (by first | omega | (simp; omega) | simp)
  have o260_ := o244_.below hb258_ (by first | omega | (simp; omega) | simp)
  have o261_ := o245_.below hb258_ (by first | omega | (simp; omega) | simp)
  have o262_ := o246_.below hb258_ (by first | omega | (simp; omega) | simp)
  have o263_ := o247_.below hb258_ (by first | omega | (simp; omega) | simp)
  have o264_ := o248_.below hb258_ (by first | omega | (simp; omega) | simp)
  have o265_ := o249_.below hb258_ (by first | omega | (simp; omega) | simp)
  have o266_ := om241_.below hb258_ (by first | omega | (simp; omega) | simp)
  have o267_ := o250_.below hb258_ (by first | omega | (simp; omega) | simp)
  have o268_ := o251_.below hb258_ (by first | omega | (simp; omega) | simp)
  have o269_ := (hb258_.cell (p := ⟨w.heap.size, 0, none⟩) (by first | omega | (simp; omega) | simp)).trans o252_
  have o270_ := (hb258_.cell (p := ⟨w.heap.size, 1, none⟩) (by first | omega | (simp; omega) | simp)).trans o253_
  have o271_ := (hb258_.cell (p := ⟨w47.heap.size, 0, none⟩) (by first | omega | (simp; omega) | simp)).trans o254_
  have o272_ := (hb258_.cell (p := ⟨w47.heap.size, 1, none⟩) (by first | omega | (simp; omega) | simp)).trans o255_
  have z273_ := hb258_.size
  have B274_ := B257_.trans (hb258_.mono (by first | omega | (simp; omega) | simp))
  clear hb258_
  have h275_ : ¬ ((1 + ((ordRow E xs ys).length : Int)) < 0) := by omega
  have h275_d : decide ((1 + ((ordRow E xs ys).length : Int)) < 0) = false := decide_eq_false h275_
  go_wp2_with fail
  refine (toCase_any E A c xs _ _ _ o259_ (by first | omega | (simp; omega) | simp) (by omega)).mono ?_
  rintro e w276 ⟨A277_, c278_, rfl, ho279_, hb276_⟩
  have o280_ := o259_.below hb276_ (by first | omega | (simp; omega) | simp)
  have o281_ := o260_.below hb276_ (by first | omega | (simp; omega) | simp)
  have o282_ := o261_.below hb276_ (by first | omega | (simp; omega) | simp)
  have o283_ := o262_.below hb276_ (by first | omega | (simp; omega) | simp)
  have o284_ := o263_.below hb276_ (by first | omega | (simp; omega) | simp)
  have o285_ := o264_.below hb276_ (by first | omega | (simp; omega) | simp)
  have o286_ := o265_.below hb276_ (by first | omega | (simp; omega) | simp)
  have o287_ := o266_.below hb276_ (by first | omega | (simp; omega) | simp)
  have o288_ := o267_.below hb276_ (by first | omega | (simp; omega) | simp)
  have o289_ := o268_.below hb276_ (by first | omega | (simp; omega) | simp)
  have o290_ := (hb276_.cell (p := ⟨w.heap.size, 0, none⟩) (by first | omega | (simp; omega) | simp)).trans o269_
  have o291_ := (hb276_.cell (p := ⟨w.heap.size, 1, none⟩) (by first | omega | (simp; omega) | simp)).trans o270_
  have o292_ := (hb276_.cell (p := ⟨w47.heap.size, 0, none⟩) (by first | omega | (simp; omega) | simp)).trans o271_
  have o293_ := (hb276_.cell (p := ⟨w47.heap.size, 1, none⟩) (by first | omega | (simp; omega) | simp)).trans o272_
  have z294_ := hb276_.size
  have B295_ := B274_.trans (hb276_.mono (by first | omega | (simp; omega) | simp))
  clear hb276_
  go_wp2_with fail
  refine (toIntS_any D d ys _ _ _ o281_ (by first | omega | (simp; omega) | simp) (by omega)).mono ?_
  rintro e w296 ⟨A297_, c298_, rfl, ho299_, hb296_⟩
  have o300_ := o280_.below hb296_ (by first | omega | (simp; omega) | simp)
  have o301_ := o281_.below hb296_ (by first | omega | (simp; omega) | simp)
  have o302_ := o282_.below hb296_ (by first | omega | (simp; omega) | simp)
  have o303_ := o283_.below hb296_ (by first | omega | (simp; omega) | simp)
  have o304_ := o284_.below hb296_ (by first | omega | (simp; omega) | simp)
  have o305_ := o285_.below hb296_ (by first | omega | (simp; omega) | simp)
  have o306_ := o286_.below hb296_ (by first | omega | (simp; omega) | simp)
  have o307_ := o287_.below hb296_ (by first | omega | (simp; omega) | simp)
  have o308_ := o288_.below hb296_ (by first | omega | (simp; omega) | simp)
  have o309_ := o289_.below hb296_ (by first | omega | (simp; omega) | simp)
  have o310_ := ho279_.below hb296_ (by first | omega | (simp; omega) | simp)
  have o311_ := (hb296_.cell (p := ⟨w.heap.size, 0, none⟩) (by first | omega | (simp; omega) | simp)).trans o290_
  have o312_ := (hb296_.cell (p := ⟨w.heap.size, 1, none⟩) (by first | omega | (simp; omega) | simp)).trans o291_
  have o313_ := (hb296_.cell (p := ⟨w47.heap.size, 0, none⟩) (by first | omega | (simp; omega) | simp)).trans o292_
  have o314_ := (hb296_.cell (p := ⟨w47.heap.size, 1, none⟩) (by first | omega | (simp; omega) | simp)).trans o293_
  have z315_ := hb296_.size
  have B316_ := B295_.trans (hb296_.mono (by first | omega | (simp; omega) | simp))
  clear hb296_
  go_wp2_with fail
  refine (implOrderAwards_any E A277_ c278_ xs A297_ c298_ ys _ _ _ o310_.ints (by first | omega | (simp; omega) | simp) (by omega) _ _ ho299_.ints (by first | omega | (simp; omega) | simp) (by omega)).mono ?_
  rintro e w317 ⟨A318_, c319_, rfl, ho320_, hb317_⟩
  have o321_ := o300_.below hb317_ (by first | omega | (simp; omega) | simp)
  have o322_ := o301_.below hb317_ (by first | omega | (simp; omega) | simp)
  have o323_ := o302_.below hb317_ (by first | omega | (simp; omega) | simp)
  have o324_ := o303_.below hb317_ (by first | omega | (simp; omega) | simp)
  have o325_ := o304_.below hb317_ (by first | omega | (simp; omega) | simp)
  have o326_ := o305_.below hb317_ (by first | omega | (simp; omega) | simp)
  have o327_ := o306_.below hb317_ (by first | omega | (simp; omega) | simp)
  have o328_ := o307_.below hb317_ (by first | omega | (simp; omega) | simp)
  have o329_ := o308_.below hb317_ (by first | omega | (simp; omega) | simp)
  have o330_ := o309_.below hb317_ (by first | omega | (simp; omega) | simp)
  have o331_ := o310_.below hb317_ (by first | omega | (simp; omega) | simp)
  have o332_ := ho299_.below hb317_ (by first | omega | (simp; omega) | simp)
  have o333_ := (hb317_.cell (p := ⟨w.heap.size, 0, none⟩) (by first | omega | (simp; omega) | simp)).trans o311_
  have o334_ := (hb317_.cell (p := ⟨w.heap.size, 1, none⟩) (by first | omega | (simp; omega) | simp)).trans o312_
  have o335_ := (hb317_.cell (p := ⟨w47.heap.size, 0, none⟩) (by first | omega | (simp; omega) | simp)).trans o313_
  have o336_ := (hb317_.cell (p := ⟨w47.heap.size, 1, none⟩) (by first | omega | (simp; omega) | simp)).trans o314_
  have z337_ := hb317_.size
  have B338_ := B316_.trans (hb317_.mono (by first | omega | (simp; omega) | simp))
  clear hb317_
  go_wp2_with fail
  refine (eqIntS_same A318_ A36_ c319_ c37_ (ordRow E xs ys) _ _ _ _ _ ho320_.ints o325_.ints (by have e := ordRow_len E xs ys; omega)).mono ?_
  rintro e w339 ⟨rfl, hb339_⟩
  have o340_ := o321_.below hb339_ (by first | omega | (simp; omega) | simp)
  have o341_ := o322_.below hb339_ (by first | omega | (simp; omega) | simp)
  have o342_ := o323_.below hb339_ (by first | omega | (simp; omega) | simp)
  have o343_ := o324_.below hb339_ (by first | omega | (simp; omega) | simp)
  have o344_ := o325_.below hb339_ (by first | omega | (simp; omega) | simp)
  have o345_ := o326_.below hb339_ (by first | omega | (simp; omega) | simp)
  have o346_ := o327_.below hb339_ (by first | omega | (simp; omega) | simp)
  have o347_ := o328_.below hb339_ (by first | omega | (simp; omega) | simp)
  have o348_ := o329_.below hb339_ (by first | omega | (simp; omega) | simp)
  have o349_ := o330_.below hb339_ (by first | omega | (simp; omega) | simp)
  have o350_ := o331_.below hb339_ (by first | omega | (simp; omega) | simp)
  have o351_ := o332_.below hb339_ (by first | omega | (simp; omega) | simp)
  have o352_ := ho320_.below hb339_ (by first | omega | (simp; omega) | simp)
  have o353_ := (hb339_.cell (p := ⟨w.heap.size, 0, none⟩) (by first | omega | (simp; omega) | simp)).trans o333_
  have o354_ := (hb339_.cell (p := ⟨w.heap.size, 1, none⟩) (by first | omega | (simp; omega) | simp)).trans o334_
  have o355_ := (hb339_.cell (p := ⟨w47.heap.size, 0, none⟩) (by first | omega | (simp; omega) | simp)).trans o335_
  have o356_ := (hb339_.cell (p := ⟨w47.heap.size, 1, none⟩) (by first | omega | (simp; omega) | simp)).trans o336_
  have z357_ := hb339_.size
  have B358_ := B338_.trans (hb339_.mono (by first | omega | (simp; omega) | simp))
  clear hb339_
  go_wp2_with fail
  refine (heldIntS_below A88_ c89_ (ordRow E xs ys).length 1 _ _ _ o347_.ints (by have e := ordRow_len E xs ys; omega) (by omega) (by omega)).mono ?_
  rintro e w359 ⟨rfl, hb359_⟩
  have o360_ := o340_.below hb359_ (by first | omega | (simp; omega) | simp)
  have o361_ := o341_.below hb359_ (by first | omega | (simp; omega) | simp)
  have o362_ := o342_.below hb359_ (by first | omega | (simp; omega) | simp)
  have o363_ := o343_.below hb359_ (by first | omega | (simp; omega) | simp)
  have o364_ := o344_.below hb359_ (by first | omega | (simp; omega) | simp)
  have o365_ := o345_.below hb359_ (by first | omega | (simp; omega) | simp)
  have o366_ := o346_.below hb359_ (by first | omega | (simp; omega) | simp)
  have o367_ := o347_.below hb359_ (by first | omega | (simp; omega) | simp)
  have o368_ := o348_.below hb359_ (by first | omega | (simp; omega) | simp)
  have o369_ := o349_.below hb359_ (by first | omega | (simp; omega) | simp)
  have o370_ := o350_.below hb359_ (by first | omega | (simp; omega) | simp)
  have o371_ := o351_.below hb359_ (by first | omega | (simp; omega) | simp)
  have o372_ := o352_.below hb359_ (by first | omega | (simp; omega) | simp)
  have o373_ := (hb359_.cell (p := ⟨w.heap.size, 0, none⟩) (by first | omega | (simp; omega) | simp)).trans o353_
  have o374_ := (hb359_.cell (p := ⟨w.heap.size, 1, none⟩) (by first | omega | (simp; omega) | simp)).trans o354_
  have o375_ := (hb359_.cell (p := ⟨w47.heap.size, 0, none⟩) (by first | omega | (simp; omega) | simp)).trans o355_
  have o376_ := (hb359_.cell (p := ⟨w47.heap.size, 1, none⟩) (by first | omega | (simp; omega) | simp)).trans o356_
  have z377_ := hb359_.size
  have B378_ := B358_.trans (hb359_.mono (by first | omega | (simp; omega) | simp))
  clear hb359_
  have h379_ : ¬ ((1 + ((ordRow E xs ys).length : Int)) < 0) := by omega
  have h379_d : decide ((1 + ((ordRow E xs ys).length : Int)) < 0) = false := decide_eq_false h379_
  go_wp2
  go_ret
  exact ⟨ret_bool (by first | exact rfl | exact (decide_eq_false (by omega)).trans rfl), B378_⟩

set_option maxRecDepth 10000 in
set_option maxHeartbeats 400000 in
theorem exOrderAwards_big0 (E : Int) (A : Option Addr) (c : Nat) (xs : List Int) (D : Option Addr) (d : Nat) (ys : List Int) (w : World)  (hl' : ¬ ys.length ≤ 1048576) (hm' : ys.length ≤ 9223372036854775807) :
    Calls Try.prog 11 #[.agg #[.int .i64 E, .slice A xs.length c], .slice D ys.length d] w fun e w' => e = .returned (.bool true) ∧ Below w.heap.size w w' := by
  have B0 := (Below.refl w.heap.size w).alloc (Nat.le_refl _) (.cells #[.int .i64 E, .slice A xs.length c] 46)
  go_enter Try.func11, Try.ntmps11
  go_wp2
  go_ret
  exact ⟨rfl, B0⟩

set_option maxRecDepth 10000 in
set_option maxHeartbeats 400000 in
theorem exOrderAwards_big1 (E : Int) (A : Option Addr) (c : Nat) (xs : List Int) (D : Option Addr) (d : Nat) (ys : List Int) (w : World) (hl' : ys.length ≤ 1048576) (hl : ¬ xs.length ≤ 1048576) (hm : xs.length ≤ 9223372036854775807) :
    Calls Try.prog 11 #[.agg #[.int .i64 E, .slice A xs.length c], .slice D ys.length d] w fun e w' => e = .returned (.bool true) ∧ Below w.heap.size w w' := by
  have B0 := (Below.refl w.heap.size w).alloc (Nat.le_refl _) (.cells #[.int .i64 E, .slice A xs.length c] 46)
  go_enter Try.func11, Try.ntmps11
  go_wp2_with fail
  refine (szCase_no E A c xs.length 1048576 _ (by omega) (by omega) hm).mono ?_
  rintro e w1 ⟨rfl, hb1⟩
  go_wp2
  go_ret
  exact ⟨rfl, B0.trans (hb1.mono (by simp))⟩

theorem exOrderAwards_all (E : Int) (A : Option Addr) (c : Nat) (xs : List Int) (D : Option Addr) (d : Nat) (ys : List Int) (w : World) (h' : Ints w 0 w.heap.size D ys) (h : Ints w 0 w.heap.size A xs) (hm' : ys.length ≤ 9223372036854775807) (hm : xs.length ≤ 9223372036854775807) :
    Calls Try.prog 11 #[.agg #[.int .i64 E, .slice A xs.length c], .slice D ys.length d] w fun e w' => e = .returned (.bool true) ∧ Below w.heap.size w w' := by
  by_cases hl' : ys.length ≤ 1048576
  · by_cases hl : xs.length ≤ 1048576
    · exact exOrderAwards_walk E A c xs D d ys w h' h hl' hl
    · exact exOrderAwards_big1 E A c xs D d ys w hl' hl hm
  · exact exOrderAwards_big0 E A c xs D d ys w  hl' hm'

end Go.Proofs.Ytmkmipgboecdaaa
