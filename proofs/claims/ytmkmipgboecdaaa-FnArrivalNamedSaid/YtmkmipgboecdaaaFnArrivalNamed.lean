/-
  The law of arrivals under other names returns true for every code, and writes nothing that was there. No condition.
-/
import Derived.Test.YtmkmipgboecdaaaGA
import Derived.Test.YtmkmipgboecdaaaDraw7
import Derived.Test.YtmkmipgboecdaaaArr7
import Derived.Test.YtmkmipgboecdaaaSpec7C
import Derived.Test.YtmkmipgboecdaaaGame7I
import Derived.Test.YtmkmipgboecdaaaGB
import Derived.Test.YtmkmipgboecdaaaGC
import Derived.Test.YtmkmipgboecdaaaHalfI
import Derived.Test.YtmkmipgboecdaaaFx
import Derived.Deep.RegionHeld3
namespace Go.Proofs.Ytmkmipgboecdaaa
open Go.RowKit

set_option maxRecDepth 10000 in
set_option maxHeartbeats 2000000 in
theorem fnArrivalNamed_walk (A0 : Option Addr) (c0 : Nat) (bs : List Int) (w : World) (h0 : Bytes w w.heap.size A0 bs) (hl : bs.length ≤ 1048576) (hc0 : bs.length ≤ c0) :
    Calls Try.prog 8 #[.slice A0 bs.length c0] w fun e w' => e = .returned (.bool true) ∧ Below w.heap.size w w' := by
  have hlm : bs.length ≤ 9223372036854775807 := by omega
  go_enter Try.func8, Try.ntmps8
  have Htrue : Hid True := trivial
  have hc0u := hc0
  have h0u := h0
  have hlmu := hlm
  go_wp2_with fail
  refine (drawNamedCase_any A0 c0 bs _ (h0.more (by first | omega | (simp; omega) | simp)) hlm hc0).mono ?_
  rintro e w1 ⟨E, A3_, c4_, A6_, c7_, xs, os, hx5, hy6, rfl, ho5_, ho8_, hb2_⟩
  have o9_ := h0.below hb2_ (by first | omega | (simp; omega) | simp)
  have z10_ := hb2_.size
  have B11_ := (Below.refl w.heap.size w).trans (hb2_.mono (by first | omega | (simp; omega) | simp))
  clear hb2_
  have hlbsxs : xs.length ≤ 1152921504606846976 := by omega
  have hlbsos : os.length ≤ 1152921504606846976 := by omega
  have o12_ := o9_.below ((Below.refl _ _).alloc (Nat.le_refl _) (.cells #[.int .i64 E, .slice A3_ xs.length c4_] 25)) (by first | omega | (simp; omega) | simp)
  have o13_ := ho5_.alloc (by first | omega | (simp; omega) | simp) (.cells #[.int .i64 E, .slice A3_ xs.length c4_] 25)
  have o14_ := ho8_.alloc (by first | omega | (simp; omega) | simp) (.cells #[.int .i64 E, .slice A3_ xs.length c4_] 25)
  have B15_ := B11_.alloc (by first | omega | (simp; omega) | simp) (.cells #[.int .i64 E, .slice A3_ xs.length c4_] 25)
  have a16_ : (w1.alloc (.cells #[.int .i64 E, .slice A3_ xs.length c4_] 25)).cell? ⟨w1.heap.size, 0, none⟩ = some (.int .i64 E) := by simp [go_sem]
  have a17_ : (w1.alloc (.cells #[.int .i64 E, .slice A3_ xs.length c4_] 25)).cell? ⟨w1.heap.size, 1, none⟩ = some (.slice A3_ xs.length c4_) := by simp [go_sem]
  by_cases h18_ : namedB E xs os = true
  · have H18_ := Lib.hid h18_
    clear h18_
    have hnp := namedB_parts H18_.out
    have HOK : Hid (caseOkB E xs = true) := hnp.1
    have hbd := caseOk_bd HOK.out
    have HOB : Hid (orderB xs.length os = true) := hnp.2
    clear hnp
    have HCX : Hid (caseOkB E (placed xs os xs.length xs.length) = true) := (named_ok HOK.out HOB.out).1
    have hoi := order_iff HOB.out
    have HOT : Hid (OrdTo os xs.length os.length) := hoi.2
    have hol1 : os.length ≤ xs.length := by have e := hoi.1; omega
    have hol2 : xs.length ≤ os.length := by have e := hoi.1; omega
    clear hoi
    have hpl1 : (placed xs os xs.length xs.length).length ≤ xs.length := by rw [placed_length]; exact Nat.le_refl _
    have hpl2 : xs.length ≤ (placed xs os xs.length xs.length).length := by rw [placed_length]; exact Nat.le_refl _
    have hla1 : (arrRow E xs).length ≤ xs.length := by rw [arrRow_yes HOK.out, arr_length]; exact Nat.le_refl _
    have hla2 : xs.length ≤ (arrRow E xs).length := by rw [arrRow_yes HOK.out, arr_length]; exact Nat.le_refl _
    have hlb1 : (arrRow E (placed xs os xs.length xs.length)).length ≤ xs.length := by rw [arrRow_yes HCX.out, arr_length, placed_length]; exact Nat.le_refl _
    have hlb2 : xs.length ≤ (arrRow E (placed xs os xs.length xs.length)).length := by rw [arrRow_yes HCX.out, arr_length, placed_length]; exact Nat.le_refl _
    have hlp1 : (halfAw E xs).length ≤ xs.length := by rw [halfAw_length]; exact Nat.le_refl _
    have hlp2 : xs.length ≤ (halfAw E xs).length := by rw [halfAw_length]; exact Nat.le_refl _
    have hlq1 : (halfAw E (placed xs os xs.length xs.length)).length ≤ xs.length := by rw [halfAw_length, placed_length]; exact Nat.le_refl _
    have hlq2 : xs.length ≤ (halfAw E (placed xs os xs.length xs.length)).length := by rw [halfAw_length, placed_length]; exact Nat.le_refl _
    go_wp2_with fail
    refine (implNamed_y E A3_ c4_ xs A6_ c7_ os _ _ _ o13_.ints (by first | omega | (simp; omega) | simp) (by omega) _ _ o14_.ints (by first | omega | (simp; omega) | simp) (by omega) H18_.out).mono ?_
    rintro e w19 ⟨A20_, c21_, rfl, ho22_, hb19_⟩
    have ho22_ : Own w19 (w1.heap.size + 1) w19.heap.size A20_ (placed xs os xs.length xs.length) := ho22_.more (by simp) (Nat.le_refl _)
    have o23_ := o12_.below hb19_ (by first | omega | (simp; omega) | simp)
    have o24_ := o13_.below hb19_ (by first | omega | (simp; omega) | simp)
    have o25_ := o14_.below hb19_ (by first | omega | (simp; omega) | simp)
    have o26_ := (hb19_.cell (p := ⟨w1.heap.size, 0, none⟩) (by first | omega | (simp; omega) | simp)).trans a16_
    have o27_ := (hb19_.cell (p := ⟨w1.heap.size, 1, none⟩) (by first | omega | (simp; omega) | simp)).trans a17_
    have z28_ := hb19_.size
    try simp at z28_
    have B29_ := B15_.trans (hb19_.mono (by first | omega | (simp; omega) | simp))
    clear hb19_
    have o30_ := o23_.below ((Below.refl _ _).alloc (Nat.le_refl _) (.cells #[.int .i64 E, .slice A20_ (placed xs os xs.length xs.length).length c21_] 25)) (by first | omega | (simp; omega) | simp)
    have o31_ := o24_.alloc (by first | omega | (simp; omega) | simp) (.cells #[.int .i64 E, .slice A20_ (placed xs os xs.length xs.length).length c21_] 25)
    have o32_ := o25_.alloc (by first | omega | (simp; omega) | simp) (.cells #[.int .i64 E, .slice A20_ (placed xs os xs.length xs.length).length c21_] 25)
    have o33_ := ho22_.alloc (by first | omega | (simp; omega) | simp) (.cells #[.int .i64 E, .slice A20_ (placed xs os xs.length xs.length).length c21_] 25)
    have o34_ := cell_alloc (o := (.cells #[.int .i64 E, .slice A20_ (placed xs os xs.length xs.length).length c21_] 25)) o26_ (by first | omega | (simp; omega) | simp)
    have o35_ := cell_alloc (o := (.cells #[.int .i64 E, .slice A20_ (placed xs os xs.length xs.length).length c21_] 25)) o27_ (by first | omega | (simp; omega) | simp)
    have B36_ := B29_.alloc (by first | omega | (simp; omega) | simp) (.cells #[.int .i64 E, .slice A20_ (placed xs os xs.length xs.length).length c21_] 25)
    have a37_ : (w19.alloc (.cells #[.int .i64 E, .slice A20_ (placed xs os xs.length xs.length).length c21_] 25)).cell? ⟨w19.heap.size, 0, none⟩ = some (.int .i64 E) := by simp [go_sem]
    have a38_ : (w19.alloc (.cells #[.int .i64 E, .slice A20_ (placed xs os xs.length xs.length).length c21_] 25)).cell? ⟨w19.heap.size, 1, none⟩ = some (.slice A20_ (placed xs os xs.length xs.length).length c21_) := by simp [go_sem]
    go_wp2_with fail
    refine (implArrivalAwards_any E A3_ c4_ xs _ _ _ o31_.ints (by first | omega | (simp; omega) | simp) (by omega)).mono ?_
    rintro e w39 ⟨A40_, c41_, rfl, ho42_, hb39_⟩
    have ho42_ : Own w39 (w19.heap.size + 1) w39.heap.size A40_ (arrRow E xs) := ho42_.more (by simp) (Nat.le_refl _)
    have o43_ := o30_.below hb39_ (by first | omega | (simp; omega) | simp)
    have o44_ := o31_.below hb39_ (by first | omega | (simp; omega) | simp)
    have o45_ := o32_.below hb39_ (by first | omega | (simp; omega) | simp)
    have o46_ := o33_.below hb39_ (by first | omega | (simp; omega) | simp)
    have o47_ := (hb39_.cell (p := ⟨w1.heap.size, 0, none⟩) (by first | omega | (simp; omega) | simp)).trans o34_
    have o48_ := (hb39_.cell (p := ⟨w1.heap.size, 1, none⟩) (by first | omega | (simp; omega) | simp)).trans o35_
    have o49_ := (hb39_.cell (p := ⟨w19.heap.size, 0, none⟩) (by first | omega | (simp; omega) | simp)).trans a37_
    have o50_ := (hb39_.cell (p := ⟨w19.heap.size, 1, none⟩) (by first | omega | (simp; omega) | simp)).trans a38_
    have z51_ := hb39_.size
    try simp at z51_
    have B52_ := B36_.trans (hb39_.mono (by first | omega | (simp; omega) | simp))
    clear hb39_
    go_wp2_with fail
    refine (implArrivalAwards_any E A20_ c21_ (placed xs os xs.length xs.length) _ _ _ o46_.ints (by first | omega | (simp; omega) | simp) (by omega)).mono ?_
    rintro e w53 ⟨A54_, c55_, rfl, ho56_, hb53_⟩
    have o57_ := o43_.below hb53_ (by first | omega | (simp; omega) | simp)
    have o58_ := o44_.below hb53_ (by first | omega | (simp; omega) | simp)
    have o59_ := o45_.below hb53_ (by first | omega | (simp; omega) | simp)
    have o60_ := o46_.below hb53_ (by first | omega | (simp; omega) | simp)
    have o61_ := ho42_.below hb53_ (by first | omega | (simp; omega) | simp)
    have o62_ := (hb53_.cell (p := ⟨w1.heap.size, 0, none⟩) (by first | omega | (simp; omega) | simp)).trans o47_
    have o63_ := (hb53_.cell (p := ⟨w1.heap.size, 1, none⟩) (by first | omega | (simp; omega) | simp)).trans o48_
    have o64_ := (hb53_.cell (p := ⟨w19.heap.size, 0, none⟩) (by first | omega | (simp; omega) | simp)).trans o49_
    have o65_ := (hb53_.cell (p := ⟨w19.heap.size, 1, none⟩) (by first | omega | (simp; omega) | simp)).trans o50_
    have z66_ := hb53_.size
    have B67_ := B52_.trans (hb53_.mono (by first | omega | (simp; omega) | simp))
    clear hb53_
    go_wp2_with fail
    refine (implHalfAwards_yes E A3_ c4_ xs _ _ _ o58_.ints (by first | omega | (simp; omega) | simp) HOK.out).mono ?_
    rintro e w68 ⟨A69_, c70_, rfl, ho71_, hb68_⟩
    have o72_ := o57_.below hb68_ (by first | omega | (simp; omega) | simp)
    have o73_ := o58_.below hb68_ (by first | omega | (simp; omega) | simp)
    have o74_ := o59_.below hb68_ (by first | omega | (simp; omega) | simp)
    have o75_ := o60_.below hb68_ (by first | omega | (simp; omega) | simp)
    have o76_ := o61_.below hb68_ (by first | omega | (simp; omega) | simp)
    have o77_ := ho56_.below hb68_ (by first | omega | (simp; omega) | simp)
    have o78_ := (hb68_.cell (p := ⟨w1.heap.size, 0, none⟩) (by first | omega | (simp; omega) | simp)).trans o62_
    have o79_ := (hb68_.cell (p := ⟨w1.heap.size, 1, none⟩) (by first | omega | (simp; omega) | simp)).trans o63_
    have o80_ := (hb68_.cell (p := ⟨w19.heap.size, 0, none⟩) (by first | omega | (simp; omega) | simp)).trans o64_
    have o81_ := (hb68_.cell (p := ⟨w19.heap.size, 1, none⟩) (by first | omega | (simp; omega) | simp)).trans o65_
    have z82_ := hb68_.size
    have B83_ := B67_.trans (hb68_.mono (by first | omega | (simp; omega) | simp))
    clear hb68_
    go_wp2_with fail
    refine (implHalfAwards_yes E A20_ c21_ (placed xs os xs.length xs.length) _ _ _ o75_.ints (by first | omega | (simp; omega) | simp) HCX.out).mono ?_
    rintro e w84 ⟨A85_, c86_, rfl, ho87_, hb84_⟩
    have o88_ := o72_.below hb84_ (by first | omega | (simp; omega) | simp)
    have o89_ := o73_.below hb84_ (by first | omega | (simp; omega) | simp)
    have o90_ := o74_.below hb84_ (by first | omega | (simp; omega) | simp)
    have o91_ := o75_.below hb84_ (by first | omega | (simp; omega) | simp)
    have o92_ := o76_.below hb84_ (by first | omega | (simp; omega) | simp)
    have o93_ := o77_.below hb84_ (by first | omega | (simp; omega) | simp)
    have o94_ := ho71_.below hb84_ (by first | omega | (simp; omega) | simp)
    have o95_ := (hb84_.cell (p := ⟨w1.heap.size, 0, none⟩) (by first | omega | (simp; omega) | simp)).trans o78_
    have o96_ := (hb84_.cell (p := ⟨w1.heap.size, 1, none⟩) (by first | omega | (simp; omega) | simp)).trans o79_
    have o97_ := (hb84_.cell (p := ⟨w19.heap.size, 0, none⟩) (by first | omega | (simp; omega) | simp)).trans o80_
    have o98_ := (hb84_.cell (p := ⟨w19.heap.size, 1, none⟩) (by first | omega | (simp; omega) | simp)).trans o81_
    have z99_ := hb84_.size
    have B100_ := B83_.trans (hb84_.mono (by first | omega | (simp; omega) | simp))
    clear hb84_
    go_wp2
    go_loopw [11] (fun kk wr => ∃ k : Nat, kk = .int .i64 k ∧ (k ≤ xs.length) ∧ Below w.heap.size w wr ∧ w84.heap.size ≤ wr.heap.size ∧ Bytes wr (w.heap.size) A0 bs ∧ Own wr (w.heap.size) (w1.heap.size) A3_ xs ∧ Own wr (w.heap.size) (w1.heap.size) A6_ os ∧ Own wr (w1.heap.size + 1) (w19.heap.size) A20_ (placed xs os xs.length xs.length) ∧ Own wr (w19.heap.size + 1) (w39.heap.size) A40_ (arrRow E xs) ∧ Own wr (w39.heap.size) (w53.heap.size) A54_ (arrRow E (placed xs os xs.length xs.length)) ∧ Own wr (w53.heap.size) (w68.heap.size) A69_ (halfAw E xs) ∧ Own wr (w68.heap.size) (w84.heap.size) A85_ (halfAw E (placed xs os xs.length xs.length)) ∧ wr.cell? ⟨w1.heap.size, 0, none⟩ = some (.int .i64 E) ∧ wr.cell? ⟨w1.heap.size, 1, none⟩ = some (.slice A3_ xs.length c4_) ∧ wr.cell? ⟨w19.heap.size, 0, none⟩ = some (.int .i64 E) ∧ wr.cell? ⟨w19.heap.size, 1, none⟩ = some (.slice A20_ (placed xs os xs.length xs.length).length c21_)) (fun kk _ => xs.length - (intOf kk).toNat)
    case atStart => exact ⟨0, rfl, Nat.zero_le _, B100_, (by first | omega | (simp; omega) | simp), o88_, o89_, o90_, o91_, o92_, o93_, o94_, ho87_, o95_, o96_, o97_, o98_⟩
    case round =>
      obtain ⟨k, rfl, hk, k102_, k103_, k104_, k105_, k106_, k107_, k108_, k109_, k110_, k111_, k112_, k113_, k114_, k115_⟩ := hrel
      obtain ⟨w101, rfl⟩ : ∃ x, x = wr := ⟨_, rfl⟩
      by_cases hlt0 : k < xs.length
      · have h116_ : ((arrRow E xs).length : Int) = (xs.length : Int) := by omega
        have h116_b : (((arrRow E xs).length : Int) == (xs.length : Int)) = true := by simpa using h116_
        have h116_n : (((arrRow E xs).length : Int) != (xs.length : Int)) = false := by simpa using h116_
        have h116_le : ((arrRow E xs).length : Int) ≤ (xs.length : Int) := by omega
        have h116_ge : (xs.length : Int) ≤ ((arrRow E xs).length : Int) := by omega
        have Hh116_ := Lib.hid h116_
        clear h116_
        have h117_ : ((arrRow E (placed xs os xs.length xs.length)).length : Int) = ((arrRow E xs).length : Int) := by omega
        have h117_b : (((arrRow E (placed xs os xs.length xs.length)).length : Int) == ((arrRow E xs).length : Int)) = true := by simpa using h117_
        have h117_n : (((arrRow E (placed xs os xs.length xs.length)).length : Int) != ((arrRow E xs).length : Int)) = false := by simpa using h117_
        have h117_le : ((arrRow E (placed xs os xs.length xs.length)).length : Int) ≤ ((arrRow E xs).length : Int) := by omega
        have h117_ge : ((arrRow E xs).length : Int) ≤ ((arrRow E (placed xs os xs.length xs.length)).length : Int) := by omega
        have Hh117_ := Lib.hid h117_
        clear h117_
        have h118_ : ((halfAw E xs).length : Int) = ((arrRow E xs).length : Int) := by omega
        have h118_b : (((halfAw E xs).length : Int) == ((arrRow E xs).length : Int)) = true := by simpa using h118_
        have h118_n : (((halfAw E xs).length : Int) != ((arrRow E xs).length : Int)) = false := by simpa using h118_
        have h118_le : ((halfAw E xs).length : Int) ≤ ((arrRow E xs).length : Int) := by omega
        have h118_ge : ((arrRow E xs).length : Int) ≤ ((halfAw E xs).length : Int) := by omega
        have Hh118_ := Lib.hid h118_
        clear h118_
        have h119_ : ((halfAw E (placed xs os xs.length xs.length)).length : Int) = ((arrRow E xs).length : Int) := by omega
        have h119_b : (((halfAw E (placed xs os xs.length xs.length)).length : Int) == ((arrRow E xs).length : Int)) = true := by simpa using h119_
        have h119_n : (((halfAw E (placed xs os xs.length xs.length)).length : Int) != ((arrRow E xs).length : Int)) = false := by simpa using h119_
        have h119_le : ((halfAw E (placed xs os xs.length xs.length)).length : Int) ≤ ((arrRow E xs).length : Int) := by omega
        have h119_ge : ((arrRow E xs).length : Int) ≤ ((halfAw E (placed xs os xs.length xs.length)).length : Int) := by omega
        have Hh119_ := Lib.hid h119_
        clear h119_
        obtain ⟨b120_, f121_, rfl, b120_l, b120_h, -⟩ := k106_.ints (by omega)
        have c122_ : w101.cell? ⟨b120_, f121_ + k, none⟩ = some (.int .i64 (os.getD k 0)) := k106_.ints.at2 k (by first | omega | (simp; omega) | simp)
        have c122_i : (k : Int) < (os.length : Int) := by omega
        have c122_j : (0 : Int) ≤ (k : Int) := by omega
        have v123_g := ord_rg HOT.out (k := k) (by omega)
        obtain ⟨v123_, hv123_⟩ : ∃ v, v = os.getD k 0 := ⟨_, rfl⟩
        rw [← hv123_] at c122_ v123_g
        have Hv123_ := Lib.hid hv123_
        clear hv123_
        obtain ⟨v123_g1, v123_g2⟩ := v123_g
        obtain ⟨x124_, hx124_⟩ : ∃ x : Nat, v123_ = (x : Int) := ⟨(v123_).toNat, by omega⟩
        have Hx124_ := Lib.hid hx124_
        have x124_b : x124_ < (arrRow E (placed xs os xs.length xs.length)).length := by omega
        obtain ⟨b125_, f126_, rfl, b125_l, b125_h, -⟩ := k109_.ints (by omega)
        have c127_ : w101.cell? ⟨b125_, f126_ + x124_, none⟩ = some (.int .i64 ((arrRow E (placed xs os xs.length xs.length)).getD x124_ 0)) := k109_.ints.at2 x124_ (by first | omega | (simp; omega) | simp)
        have c127_i : (x124_ : Int) < ((arrRow E (placed xs os xs.length xs.length)).length : Int) := by omega
        have c127_j : (0 : Int) ≤ (x124_ : Int) := by omega
        have v128_g := arrRow_rg E (placed xs os xs.length xs.length) x124_
        obtain ⟨v128_, hv128_⟩ : ∃ v, v = (arrRow E (placed xs os xs.length xs.length)).getD x124_ 0 := ⟨_, rfl⟩
        rw [← hv128_] at c127_ v128_g
        have Hv128_ := Lib.hid hv128_
        clear hv128_
        obtain ⟨v128_g1, v128_g2⟩ := v128_g
        obtain ⟨b129_, f130_, rfl, b129_l, b129_h, -⟩ := k108_.ints (by omega)
        have c131_ : w101.cell? ⟨b129_, f130_ + k, none⟩ = some (.int .i64 ((arrRow E xs).getD k 0)) := k108_.ints.at2 k (by first | omega | (simp; omega) | simp)
        have c131_i : (k : Int) < ((arrRow E xs).length : Int) := by omega
        have c131_j : (0 : Int) ≤ (k : Int) := by omega
        have v132_g := arrRow_rg E xs k
        obtain ⟨v132_, hv132_⟩ : ∃ v, v = (arrRow E xs).getD k 0 := ⟨_, rfl⟩
        rw [← hv132_] at c131_ v132_g
        have Hv132_ := Lib.hid hv132_
        clear hv132_
        obtain ⟨v132_g1, v132_g2⟩ := v132_g
        have h133_ : v128_ = v132_ := by rw [Hv128_.out, Hv132_.out]; exact arr_named_row HOK.out HOB.out HCX.out (by omega) (by rw [← Hv123_.out]; exact Hx124_.out)
        have h133_b : (v128_ == v132_) = true := by simpa using h133_
        have h133_n : (v128_ != v132_) = false := by simpa using h133_
        have h133_le : v128_ ≤ v132_ := by omega
        have h133_ge : v132_ ≤ v128_ := by omega
        have Hh133_ := Lib.hid h133_
        clear h133_
        obtain ⟨b134_, f135_, rfl, b134_l, b134_h, -⟩ := k111_.ints (by omega)
        have c136_ : w101.cell? ⟨b134_, f135_ + x124_, none⟩ = some (.int .i64 ((halfAw E (placed xs os xs.length xs.length)).getD x124_ 0)) := k111_.ints.at2 x124_ (by first | omega | (simp; omega) | simp)
        have c136_i : (x124_ : Int) < ((halfAw E (placed xs os xs.length xs.length)).length : Int) := by omega
        have c136_j : (0 : Int) ≤ (x124_ : Int) := by omega
        obtain ⟨v137_, hv137_⟩ : ∃ v, v = (halfAw E (placed xs os xs.length xs.length)).getD x124_ 0 := ⟨_, rfl⟩
        rw [← hv137_] at c136_
        have Hv137_ := Lib.hid hv137_
        clear hv137_
        obtain ⟨b138_, f139_, rfl, b138_l, b138_h, -⟩ := k110_.ints (by omega)
        have c140_ : w101.cell? ⟨b138_, f139_ + k, none⟩ = some (.int .i64 ((halfAw E xs).getD k 0)) := k110_.ints.at2 k (by first | omega | (simp; omega) | simp)
        have c140_i : (k : Int) < ((halfAw E xs).length : Int) := by omega
        have c140_j : (0 : Int) ≤ (k : Int) := by omega
        obtain ⟨v141_, hv141_⟩ : ∃ v, v = (halfAw E xs).getD k 0 := ⟨_, rfl⟩
        rw [← hv141_] at c140_
        have Hv141_ := Lib.hid hv141_
        clear hv141_
        have h142_ : v137_ = v141_ := by rw [Hv137_.out, Hv141_.out]; exact half_named_row HOK.out HOB.out HCX.out (by omega) (by rw [← Hv123_.out]; exact Hx124_.out)
        have h142_b : (v137_ == v141_) = true := by simpa using h142_
        have h142_n : (v137_ != v141_) = false := by simpa using h142_
        have h142_le : v137_ ≤ v141_ := by omega
        have h142_ge : v141_ ≤ v137_ := by omega
        have Hh142_ := Lib.hid h142_
        clear h142_
        go_wp2
        go_quiet (fail)
        obtain ⟨w143, hw143⟩ : ∃ x, x = w101.drewN nq := ⟨_, rfl⟩
        have hb144_ : Below w101.heap.size w101 w143 := by rw [hw143]; exact below_drewN (Below.refl _ _) _
        rw [← hw143]
        clear hw143
        have o146_ := k104_.below hb144_ (by first | omega | (simp; omega) | simp)
        have o147_ := k105_.below hb144_ (by first | omega | (simp; omega) | simp)
        have o148_ := k106_.below hb144_ (by first | omega | (simp; omega) | simp)
        have o149_ := k107_.below hb144_ (by first | omega | (simp; omega) | simp)
        have o150_ := k108_.below hb144_ (by first | omega | (simp; omega) | simp)
        have o151_ := k109_.below hb144_ (by first | omega | (simp; omega) | simp)
        have o152_ := k110_.below hb144_ (by first | omega | (simp; omega) | simp)
        have o153_ := k111_.below hb144_ (by first | omega | (simp; omega) | simp)
        have o154_ := (hb144_.cell (p := ⟨w1.heap.size, 0, none⟩) (by first | omega | (simp; omega) | simp)).trans k112_
        have o155_ := (hb144_.cell (p := ⟨w1.heap.size, 1, none⟩) (by first | omega | (simp; omega) | simp)).trans k113_
        have o156_ := (hb144_.cell (p := ⟨w19.heap.size, 0, none⟩) (by first | omega | (simp; omega) | simp)).trans k114_
        have o157_ := (hb144_.cell (p := ⟨w19.heap.size, 1, none⟩) (by first | omega | (simp; omega) | simp)).trans k115_
        have z158_ := hb144_.size
        have B159_ := k102_.trans (hb144_.mono (by first | omega | (simp; omega) | simp))
        clear hb144_
        go_wp2
        go_roundw
        case rel => exact ⟨k + 1, by go_num, by omega, B159_, (by first | omega | (simp; omega) | simp), o146_, o147_, o148_, o149_, o150_, o151_, o152_, o153_, o154_, o155_, o156_, o157_⟩
        case measure => simp [intOf] <;> omega
      · obtain rfl : k = xs.length := by omega
        go_wp2_with fail
        refine (alive_any _).mono ?_
        rintro e w116 ⟨rfl, hb116_⟩
        have o117_ := k104_.below hb116_ (by first | omega | (simp; omega) | simp)
        have o118_ := k105_.below hb116_ (by first | omega | (simp; omega) | simp)
        have o119_ := k106_.below hb116_ (by first | omega | (simp; omega) | simp)
        have o120_ := k107_.below hb116_ (by first | omega | (simp; omega) | simp)
        have o121_ := k108_.below hb116_ (by first | omega | (simp; omega) | simp)
        have o122_ := k109_.below hb116_ (by first | omega | (simp; omega) | simp)
        have o123_ := k110_.below hb116_ (by first | omega | (simp; omega) | simp)
        have o124_ := k111_.below hb116_ (by first | omega | (simp; omega) | simp)
        have o125_ := (hb116_.cell (p := ⟨w1.heap.size, 0, none⟩) (by first | omega | (simp; omega) | simp)).trans k112_
        have o126_ := (hb116_.cell (p := ⟨w1.heap.size, 1, none⟩) (by first | omega | (simp; omega) | simp)).trans k113_
        have o127_ := (hb116_.cell (p := ⟨w19.heap.size, 0, none⟩) (by first | omega | (simp; omega) | simp)).trans k114_
        have o128_ := (hb116_.cell (p := ⟨w19.heap.size, 1, none⟩) (by first | omega | (simp; omega) | simp)).trans k115_
        have z129_ := hb116_.size
        have B130_ := k102_.trans (hb116_.mono (by first | omega | (simp; omega) | simp))
        clear hb116_
        go_wp2
        go_ret
        exact ⟨ret_bool rfl, B130_⟩
  · have H18_ : Hid (namedB E xs os = false) := by show _ = _; simpa using h18_
    clear h18_
    go_wp2_with fail
    refine (implNamed_n E A3_ c4_ xs A6_ c7_ os _ _ _ o13_.ints (by first | omega | (simp; omega) | simp) (by omega) _ _ o14_.ints (by first | omega | (simp; omega) | simp) (by omega) H18_.out).mono ?_
    rintro e w19 ⟨A20_, c21_, rfl, ho22_, hb19_⟩
    have ho22_ : Own w19 (w1.heap.size + 1) w19.heap.size A20_ ([] : List Int) := ho22_.more (by simp) (Nat.le_refl _)
    have o23_ := o12_.below hb19_ (by first | omega | (simp; omega) | simp)
    have o24_ := o13_.below hb19_ (by first | omega | (simp; omega) | simp)
    have o25_ := o14_.below hb19_ (by first | omega | (simp; omega) | simp)
    have o26_ := (hb19_.cell (p := ⟨w1.heap.size, 0, none⟩) (by first | omega | (simp; omega) | simp)).trans a16_
    have o27_ := (hb19_.cell (p := ⟨w1.heap.size, 1, none⟩) (by first | omega | (simp; omega) | simp)).trans a17_
    have z28_ := hb19_.size
    try simp at z28_
    have B29_ := B15_.trans (hb19_.mono (by first | omega | (simp; omega) | simp))
    clear hb19_
    have o30_ := o23_.below ((Below.refl _ _).alloc (Nat.le_refl _) (.cells #[.int .i64 0, .slice A20_ ([] : List Int).length c21_] 25)) (by first | omega | (simp; omega) | simp)
    have o31_ := o24_.alloc (by first | omega | (simp; omega) | simp) (.cells #[.int .i64 0, .slice A20_ ([] : List Int).length c21_] 25)
    have o32_ := o25_.alloc (by first | omega | (simp; omega) | simp) (.cells #[.int .i64 0, .slice A20_ ([] : List Int).length c21_] 25)
    have o33_ := ho22_.alloc (by first | omega | (simp; omega) | simp) (.cells #[.int .i64 0, .slice A20_ ([] : List Int).length c21_] 25)
    have o34_ := cell_alloc (o := (.cells #[.int .i64 0, .slice A20_ ([] : List Int).length c21_] 25)) o26_ (by first | omega | (simp; omega) | simp)
    have o35_ := cell_alloc (o := (.cells #[.int .i64 0, .slice A20_ ([] : List Int).length c21_] 25)) o27_ (by first | omega | (simp; omega) | simp)
    have B36_ := B29_.alloc (by first | omega | (simp; omega) | simp) (.cells #[.int .i64 0, .slice A20_ ([] : List Int).length c21_] 25)
    have a37_ : (w19.alloc (.cells #[.int .i64 0, .slice A20_ ([] : List Int).length c21_] 25)).cell? ⟨w19.heap.size, 0, none⟩ = some (.int .i64 0) := by simp [go_sem]
    have a38_ : (w19.alloc (.cells #[.int .i64 0, .slice A20_ ([] : List Int).length c21_] 25)).cell? ⟨w19.heap.size, 1, none⟩ = some (.slice A20_ ([] : List Int).length c21_) := by simp [go_sem]
    go_wp2_with fail
    refine (alive_any _).mono ?_
    rintro e w39 ⟨rfl, hb39_⟩
    have o40_ := o30_.below hb39_ (by first | omega | (simp; omega) | simp)
    have o41_ := o31_.below hb39_ (by first | omega | (simp; omega) | simp)
    have o42_ := o32_.below hb39_ (by first | omega | (simp; omega) | simp)
    have o43_ := o33_.below hb39_ (by first | omega | (simp; omega) | simp)
    have o44_ := (hb39_.cell (p := ⟨w1.heap.size, 0, none⟩) (by first | omega | (simp; omega) | simp)).trans o34_
    have o45_ := (hb39_.cell (p := ⟨w1.heap.size, 1, none⟩) (by first | omega | (simp; omega) | simp)).trans o35_
    have o46_ := (hb39_.cell (p := ⟨w19.heap.size, 0, none⟩) (by first | omega | (simp; omega) | simp)).trans a37_
    have o47_ := (hb39_.cell (p := ⟨w19.heap.size, 1, none⟩) (by first | omega | (simp; omega) | simp)).trans a38_
    have z48_ := hb39_.size
    try simp at z48_
    have B49_ := B36_.trans (hb39_.mono (by first | omega | (simp; omega) | simp))
    clear hb39_
    go_wp2
    go_ret
    exact ⟨ret_bool rfl, B49_⟩

set_option maxRecDepth 10000 in
set_option maxHeartbeats 400000 in
theorem fnArrivalNamed_big (A0 : Option Addr) (c0 : Nat) (bs : List Int) (w : World) (hl : ¬ bs.length ≤ 1048576) (hm : bs.length ≤ 9223372036854775807) :
    Calls Try.prog 8 #[.slice A0 bs.length c0] w fun e w' => e = .returned (.bool true) ∧ Below w.heap.size w w' := by
  go_enter Try.func8, Try.ntmps8
  go_wp2
  go_ret
  exact ⟨rfl, Below.refl _ _⟩

theorem fnArrivalNamed_all (A0 : Option Addr) (c0 : Nat) (bs : List Int) (w : World) (h0 : Bytes w w.heap.size A0 bs) (hm : bs.length ≤ 9223372036854775807) (hc0 : bs.length ≤ c0) :
    Calls Try.prog 8 #[.slice A0 bs.length c0] w fun e w' => e = .returned (.bool true) ∧ Below w.heap.size w w' := by
  by_cases hl : bs.length ≤ 1048576
  · exact fnArrivalNamed_walk A0 c0 bs w h0 hl hc0
  · exact fnArrivalNamed_big A0 c0 bs w hl hm

end Go.Proofs.Ytmkmipgboecdaaa
