/-
  The law of arrivals and cut claims returns true for every code, and writes nothing that was there. No condition.
-/
import Derived.Test.YtmkmipgboecdaaaGA
import Derived.Test.YtmkmipgboecdaaaDraw7
import Derived.Test.YtmkmipgboecdaaaArr7
import Derived.Test.YtmkmipgboecdaaaSpec7C
import Derived.Test.YtmkmipgboecdaaaGame7I
import Derived.Test.YtmkmipgboecdaaaGB
import Derived.Test.YtmkmipgboecdaaaGC
import Derived.Test.YtmkmipgboecdaaaFx
import Derived.Deep.RegionHeld3
namespace Go.Proofs.Ytmkmipgboecdaaa
open Go.RowKit

set_option maxRecDepth 10000 in
set_option maxHeartbeats 2000000 in
theorem fnArrivalCut_walk (A0 : Option Addr) (c0 : Nat) (bs : List Int) (w : World) (h0 : Bytes w w.heap.size A0 bs) (hl : bs.length ≤ 1048576) (hc0 : bs.length ≤ c0) :
    Calls Try.prog 7 #[.slice A0 bs.length c0] w fun e w' => e = .returned (.bool true) ∧ Below w.heap.size w w' := by
  have hlm : bs.length ≤ 9223372036854775807 := by omega
  go_enter Try.func7, Try.ntmps7
  have Htrue : Hid True := trivial
  have hc0u := hc0
  have h0u := h0
  have hlmu := hlm
  go_wp2_with fail
  refine (drawArrivalAwards_any A0 c0 bs _ (h0.more (by first | omega | (simp; omega) | simp)) hlm hc0).mono ?_
  rintro e w1 ⟨E, A3_, c4_, xs, hx5, rfl, ho5_, hb2_⟩
  have o6_ := h0.below hb2_ (by first | omega | (simp; omega) | simp)
  have z7_ := hb2_.size
  have B8_ := (Below.refl w.heap.size w).trans (hb2_.mono (by first | omega | (simp; omega) | simp))
  clear hb2_
  have hlbsxs : xs.length ≤ 1152921504606846976 := by omega
  have o9_ := o6_.below ((Below.refl _ _).alloc (Nat.le_refl _) (.cells #[.int .i64 E, .slice A3_ xs.length c4_] 25)) (by first | omega | (simp; omega) | simp)
  have o10_ := ho5_.alloc (by first | omega | (simp; omega) | simp) (.cells #[.int .i64 E, .slice A3_ xs.length c4_] 25)
  have B11_ := B8_.alloc (by first | omega | (simp; omega) | simp) (.cells #[.int .i64 E, .slice A3_ xs.length c4_] 25)
  have a12_ : (w1.alloc (.cells #[.int .i64 E, .slice A3_ xs.length c4_] 25)).cell? ⟨w1.heap.size, 0, none⟩ = some (.int .i64 E) := by simp [go_sem]
  have a13_ : (w1.alloc (.cells #[.int .i64 E, .slice A3_ xs.length c4_] 25)).cell? ⟨w1.heap.size, 1, none⟩ = some (.slice A3_ xs.length c4_) := by simp [go_sem]
  go_wp2_with fail
  refine (implArrivalAwards_any E A3_ c4_ xs _ _ _ o10_.ints (by first | omega | (simp; omega) | simp) (by omega)).mono ?_
  rintro e w14 ⟨A15_, c16_, rfl, ho17_, hb14_⟩
  have ho17_ : Own w14 (w1.heap.size + 1) w14.heap.size A15_ (arrRow E xs) := ho17_.more (by simp) (Nat.le_refl _)
  have o18_ := o9_.below hb14_ (by first | omega | (simp; omega) | simp)
  have o19_ := o10_.below hb14_ (by first | omega | (simp; omega) | simp)
  have o20_ := (hb14_.cell (p := ⟨w1.heap.size, 0, none⟩) (by first | omega | (simp; omega) | simp)).trans a12_
  have o21_ := (hb14_.cell (p := ⟨w1.heap.size, 1, none⟩) (by first | omega | (simp; omega) | simp)).trans a13_
  have z22_ := hb14_.size
  try simp at z22_
  have B23_ := B11_.trans (hb14_.mono (by first | omega | (simp; omega) | simp))
  clear hb14_
  by_cases h24_ : ((arrRow E xs).length : Int) = 0
  · have h24_b : (((arrRow E xs).length : Int) == 0) = true := by simpa using h24_
    have h24_n : (((arrRow E xs).length : Int) != 0) = false := by simpa using h24_
    have h24_le : ((arrRow E xs).length : Int) ≤ 0 := by omega
    have h24_ge : 0 ≤ ((arrRow E xs).length : Int) := by omega
    have Hh24_ := Lib.hid h24_
    clear h24_
    go_wp2_with fail
    refine (specArrivalAwards_any E A3_ c4_ xs _ _ _ o19_.ints (by first | omega | (simp; omega) | simp) (by omega)).mono ?_
    rintro e w25 ⟨A26_, c27_, rfl, ho28_, hb25_⟩
    have o29_ := o18_.below hb25_ (by first | omega | (simp; omega) | simp)
    have o30_ := o19_.below hb25_ (by first | omega | (simp; omega) | simp)
    have o31_ := ho17_.below hb25_ (by first | omega | (simp; omega) | simp)
    have o32_ := (hb25_.cell (p := ⟨w1.heap.size, 0, none⟩) (by first | omega | (simp; omega) | simp)).trans o20_
    have o33_ := (hb25_.cell (p := ⟨w1.heap.size, 1, none⟩) (by first | omega | (simp; omega) | simp)).trans o21_
    have z34_ := hb25_.size
    have B35_ := B23_.trans (hb25_.mono (by first | omega | (simp; omega) | simp))
    clear hb25_
    have h36_ : ((arrRow E xs).length : Int) = 0 := Hh24_.out
    have h36_b : (((arrRow E xs).length : Int) == 0) = true := by simpa using h36_
    have h36_n : (((arrRow E xs).length : Int) != 0) = false := by simpa using h36_
    have h36_le : ((arrRow E xs).length : Int) ≤ 0 := by omega
    have h36_ge : 0 ≤ ((arrRow E xs).length : Int) := by omega
    have Hh36_ := Lib.hid h36_
    clear h36_
    go_wp2_with fail
    refine (alive_any _).mono ?_
    rintro e w37 ⟨rfl, hb37_⟩
    have o38_ := o29_.below hb37_ (by first | omega | (simp; omega) | simp)
    have o39_ := o30_.below hb37_ (by first | omega | (simp; omega) | simp)
    have o40_ := o31_.below hb37_ (by first | omega | (simp; omega) | simp)
    have o41_ := ho28_.below hb37_ (by first | omega | (simp; omega) | simp)
    have o42_ := (hb37_.cell (p := ⟨w1.heap.size, 0, none⟩) (by first | omega | (simp; omega) | simp)).trans o32_
    have o43_ := (hb37_.cell (p := ⟨w1.heap.size, 1, none⟩) (by first | omega | (simp; omega) | simp)).trans o33_
    have z44_ := hb37_.size
    have B45_ := B35_.trans (hb37_.mono (by first | omega | (simp; omega) | simp))
    clear hb37_
    go_wp2
    go_ret
    exact ⟨ret_bool (by first | exact rfl | exact h36_b.trans rfl), B45_⟩
  · have h24_b : (((arrRow E xs).length : Int) == 0) = false := by simpa using h24_
    have h24_n : (((arrRow E xs).length : Int) != 0) = true := by simpa using h24_
    have HOK : Hid (caseOkB E xs = true) := arrRow_some (E := E) (xs := xs) (by omega)
    have hbd := caseOk_bd HOK.out
    have HRW : Hid (arrRow E xs = arr E xs) := arrRow_yes HOK.out
    have HAW : Hid (awardsB E xs (arrRow E xs) = true) := by show _ = _; rw [HRW.out]; exact (awardsB_iff _ _ _).2 (arr_aw HOK.out)
    have HLO : Hid ((arrRow E xs).length = xs.length) := by show _ = _; rw [HRW.out, arr_length]
    have hlo1 : (arrRow E xs).length ≤ xs.length := by have e := HLO.out; omega
    have hlo2 : xs.length ≤ (arrRow E xs).length := by have e := HLO.out; omega
    have HLL : Hid ((lossesRow xs (arrRow E xs)).length = xs.length) := by show _ = _; rw [lossesRow_length HLO.out, HLO.out]
    have HRK := Lib.hid (rest_case HOK.out)
    have hlp0 : (arrRow (E - (rightsRow E xs).sum) (restRow E xs)).length = xs.length := by rw [arrRow_yes HRK.out, arr_length, restRow_length]
    have hlp1 : (arrRow (E - (rightsRow E xs).sum) (restRow E xs)).length ≤ xs.length := by omega
    have hlp2 : xs.length ≤ (arrRow (E - (rightsRow E xs).sum) (restRow E xs)).length := by omega
    clear hlp0
    have hlr1 : (rightsRow E xs).length ≤ xs.length := by rw [rightsRow_length]; exact Nat.le_refl _
    have hlr2 : xs.length ≤ (rightsRow E xs).length := by rw [rightsRow_length]; exact Nat.le_refl _
    go_wp2_with fail
    refine (implCutCase_yes E A3_ c4_ xs _ _ _ o19_.ints (by first | omega | (simp; omega) | simp) HOK.out).mono ?_
    rintro e w25 ⟨A26_, c27_, rfl, ho28_, hb25_⟩
    have o29_ := o18_.below hb25_ (by first | omega | (simp; omega) | simp)
    have o30_ := o19_.below hb25_ (by first | omega | (simp; omega) | simp)
    have o31_ := ho17_.below hb25_ (by first | omega | (simp; omega) | simp)
    have o32_ := (hb25_.cell (p := ⟨w1.heap.size, 0, none⟩) (by first | omega | (simp; omega) | simp)).trans o20_
    have o33_ := (hb25_.cell (p := ⟨w1.heap.size, 1, none⟩) (by first | omega | (simp; omega) | simp)).trans o21_
    have z34_ := hb25_.size
    have B35_ := B23_.trans (hb25_.mono (by first | omega | (simp; omega) | simp))
    clear hb25_
    have o36_ := o29_.below ((Below.refl _ _).alloc (Nat.le_refl _) (.cells #[.int .i64 E, .slice A26_ (cutRow E xs).length c27_] 25)) (by first | omega | (simp; omega) | simp)
    have o37_ := o30_.alloc (by first | omega | (simp; omega) | simp) (.cells #[.int .i64 E, .slice A26_ (cutRow E xs).length c27_] 25)
    have o38_ := o31_.alloc (by first | omega | (simp; omega) | simp) (.cells #[.int .i64 E, .slice A26_ (cutRow E xs).length c27_] 25)
    have o39_ := ho28_.alloc (by first | omega | (simp; omega) | simp) (.cells #[.int .i64 E, .slice A26_ (cutRow E xs).length c27_] 25)
    have o40_ := cell_alloc (o := (.cells #[.int .i64 E, .slice A26_ (cutRow E xs).length c27_] 25)) o32_ (by first | omega | (simp; omega) | simp)
    have o41_ := cell_alloc (o := (.cells #[.int .i64 E, .slice A26_ (cutRow E xs).length c27_] 25)) o33_ (by first | omega | (simp; omega) | simp)
    have B42_ := B35_.alloc (by first | omega | (simp; omega) | simp) (.cells #[.int .i64 E, .slice A26_ (cutRow E xs).length c27_] 25)
    have a43_ : (w25.alloc (.cells #[.int .i64 E, .slice A26_ (cutRow E xs).length c27_] 25)).cell? ⟨w25.heap.size, 0, none⟩ = some (.int .i64 E) := by simp [go_sem]
    have a44_ : (w25.alloc (.cells #[.int .i64 E, .slice A26_ (cutRow E xs).length c27_] 25)).cell? ⟨w25.heap.size, 1, none⟩ = some (.slice A26_ (cutRow E xs).length c27_) := by simp [go_sem]
    go_wp2_with fail
    refine (implRestCase_yes E A3_ c4_ xs _ _ _ o37_.ints (by first | omega | (simp; omega) | simp) HOK.out).mono ?_
    rintro e w45 ⟨A46_, c47_, rfl, ho48_, hb45_⟩
    have ho48_ : Own w45 (w25.heap.size + 1) w45.heap.size A46_ (restRow E xs) := ho48_.more (by simp) (Nat.le_refl _)
    have o49_ := o36_.below hb45_ (by first | omega | (simp; omega) | simp)
    have o50_ := o37_.below hb45_ (by first | omega | (simp; omega) | simp)
    have o51_ := o38_.below hb45_ (by first | omega | (simp; omega) | simp)
    have o52_ := o39_.below hb45_ (by first | omega | (simp; omega) | simp)
    have o53_ := (hb45_.cell (p := ⟨w1.heap.size, 0, none⟩) (by first | omega | (simp; omega) | simp)).trans o40_
    have o54_ := (hb45_.cell (p := ⟨w1.heap.size, 1, none⟩) (by first | omega | (simp; omega) | simp)).trans o41_
    have o55_ := (hb45_.cell (p := ⟨w25.heap.size, 0, none⟩) (by first | omega | (simp; omega) | simp)).trans a43_
    have o56_ := (hb45_.cell (p := ⟨w25.heap.size, 1, none⟩) (by first | omega | (simp; omega) | simp)).trans a44_
    have z57_ := hb45_.size
    try simp at z57_
    have B58_ := B42_.trans (hb45_.mono (by first | omega | (simp; omega) | simp))
    clear hb45_
    have o59_ := o49_.below ((Below.refl _ _).alloc (Nat.le_refl _) (.cells #[.int .i64 (E - (rightsRow E xs).sum), .slice A46_ (restRow E xs).length c47_] 25)) (by first | omega | (simp; omega) | simp)
    have o60_ := o50_.alloc (by first | omega | (simp; omega) | simp) (.cells #[.int .i64 (E - (rightsRow E xs).sum), .slice A46_ (restRow E xs).length c47_] 25)
    have o61_ := o51_.alloc (by first | omega | (simp; omega) | simp) (.cells #[.int .i64 (E - (rightsRow E xs).sum), .slice A46_ (restRow E xs).length c47_] 25)
    have o62_ := o52_.alloc (by first | omega | (simp; omega) | simp) (.cells #[.int .i64 (E - (rightsRow E xs).sum), .slice A46_ (restRow E xs).length c47_] 25)
    have o63_ := ho48_.alloc (by first | omega | (simp; omega) | simp) (.cells #[.int .i64 (E - (rightsRow E xs).sum), .slice A46_ (restRow E xs).length c47_] 25)
    have o64_ := cell_alloc (o := (.cells #[.int .i64 (E - (rightsRow E xs).sum), .slice A46_ (restRow E xs).length c47_] 25)) o53_ (by first | omega | (simp; omega) | simp)
    have o65_ := cell_alloc (o := (.cells #[.int .i64 (E - (rightsRow E xs).sum), .slice A46_ (restRow E xs).length c47_] 25)) o54_ (by first | omega | (simp; omega) | simp)
    have o66_ := cell_alloc (o := (.cells #[.int .i64 (E - (rightsRow E xs).sum), .slice A46_ (restRow E xs).length c47_] 25)) o55_ (by first | omega | (simp; omega) | simp)
    have o67_ := cell_alloc (o := (.cells #[.int .i64 (E - (rightsRow E xs).sum), .slice A46_ (restRow E xs).length c47_] 25)) o56_ (by first | omega | (simp; omega) | simp)
    have B68_ := B58_.alloc (by first | omega | (simp; omega) | simp) (.cells #[.int .i64 (E - (rightsRow E xs).sum), .slice A46_ (restRow E xs).length c47_] 25)
    have a69_ : (w45.alloc (.cells #[.int .i64 (E - (rightsRow E xs).sum), .slice A46_ (restRow E xs).length c47_] 25)).cell? ⟨w45.heap.size, 0, none⟩ = some (.int .i64 (E - (rightsRow E xs).sum)) := by simp [go_sem]
    have a70_ : (w45.alloc (.cells #[.int .i64 (E - (rightsRow E xs).sum), .slice A46_ (restRow E xs).length c47_] 25)).cell? ⟨w45.heap.size, 1, none⟩ = some (.slice A46_ (restRow E xs).length c47_) := by simp [go_sem]
    go_wp2_with fail
    refine (implRightsOf_yes E A3_ c4_ xs _ _ _ o60_.ints (by first | omega | (simp; omega) | simp) HOK.out).mono ?_
    rintro e w71 ⟨A72_, c73_, rfl, ho74_, hb71_⟩
    have ho74_ : Own w71 (w45.heap.size + 1) w71.heap.size A72_ (rightsRow E xs) := ho74_.more (by simp) (Nat.le_refl _)
    have o75_ := o59_.below hb71_ (by first | omega | (simp; omega) | simp)
    have o76_ := o60_.below hb71_ (by first | omega | (simp; omega) | simp)
    have o77_ := o61_.below hb71_ (by first | omega | (simp; omega) | simp)
    have o78_ := o62_.below hb71_ (by first | omega | (simp; omega) | simp)
    have o79_ := o63_.below hb71_ (by first | omega | (simp; omega) | simp)
    have o80_ := (hb71_.cell (p := ⟨w1.heap.size, 0, none⟩) (by first | omega | (simp; omega) | simp)).trans o64_
    have o81_ := (hb71_.cell (p := ⟨w1.heap.size, 1, none⟩) (by first | omega | (simp; omega) | simp)).trans o65_
    have o82_ := (hb71_.cell (p := ⟨w25.heap.size, 0, none⟩) (by first | omega | (simp; omega) | simp)).trans o66_
    have o83_ := (hb71_.cell (p := ⟨w25.heap.size, 1, none⟩) (by first | omega | (simp; omega) | simp)).trans o67_
    have o84_ := (hb71_.cell (p := ⟨w45.heap.size, 0, none⟩) (by first | omega | (simp; omega) | simp)).trans a69_
    have o85_ := (hb71_.cell (p := ⟨w45.heap.size, 1, none⟩) (by first | omega | (simp; omega) | simp)).trans a70_
    have z86_ := hb71_.size
    try simp at z86_
    have B87_ := B68_.trans (hb71_.mono (by first | omega | (simp; omega) | simp))
    clear hb71_
    go_wp2_with fail
    refine (implArrivalAwards_any (E - (rightsRow E xs).sum) A46_ c47_ (restRow E xs) _ _ _ o79_.ints (by first | omega | (simp; omega) | simp) (by rw [restRow_length]; omega)).mono ?_
    rintro e w88 ⟨A89_, c90_, rfl, ho91_, hb88_⟩
    have o92_ := o75_.below hb88_ (by first | omega | (simp; omega) | simp)
    have o93_ := o76_.below hb88_ (by first | omega | (simp; omega) | simp)
    have o94_ := o77_.below hb88_ (by first | omega | (simp; omega) | simp)
    have o95_ := o78_.below hb88_ (by first | omega | (simp; omega) | simp)
    have o96_ := o79_.below hb88_ (by first | omega | (simp; omega) | simp)
    have o97_ := ho74_.below hb88_ (by first | omega | (simp; omega) | simp)
    have o98_ := (hb88_.cell (p := ⟨w1.heap.size, 0, none⟩) (by first | omega | (simp; omega) | simp)).trans o80_
    have o99_ := (hb88_.cell (p := ⟨w1.heap.size, 1, none⟩) (by first | omega | (simp; omega) | simp)).trans o81_
    have o100_ := (hb88_.cell (p := ⟨w25.heap.size, 0, none⟩) (by first | omega | (simp; omega) | simp)).trans o82_
    have o101_ := (hb88_.cell (p := ⟨w25.heap.size, 1, none⟩) (by first | omega | (simp; omega) | simp)).trans o83_
    have o102_ := (hb88_.cell (p := ⟨w45.heap.size, 0, none⟩) (by first | omega | (simp; omega) | simp)).trans o84_
    have o103_ := (hb88_.cell (p := ⟨w45.heap.size, 1, none⟩) (by first | omega | (simp; omega) | simp)).trans o85_
    have z104_ := hb88_.size
    have B105_ := B87_.trans (hb88_.mono (by first | omega | (simp; omega) | simp))
    clear hb88_
    go_wp2
    go_loopw [11] (fun kk wr => ∃ k : Nat, kk = .int .i64 k ∧ (k ≤ (arrRow E xs).length) ∧ Below w.heap.size w wr ∧ w88.heap.size ≤ wr.heap.size ∧ Bytes wr (w.heap.size) A0 bs ∧ Own wr (w.heap.size) (w1.heap.size) A3_ xs ∧ Own wr (w1.heap.size + 1) (w14.heap.size) A15_ (arrRow E xs) ∧ Own wr (w14.heap.size) (w25.heap.size) A26_ (cutRow E xs) ∧ Own wr (w25.heap.size + 1) (w45.heap.size) A46_ (restRow E xs) ∧ Own wr (w45.heap.size + 1) (w71.heap.size) A72_ (rightsRow E xs) ∧ Own wr (w71.heap.size) (w88.heap.size) A89_ (arrRow (E - (rightsRow E xs).sum) (restRow E xs)) ∧ wr.cell? ⟨w1.heap.size, 0, none⟩ = some (.int .i64 E) ∧ wr.cell? ⟨w1.heap.size, 1, none⟩ = some (.slice A3_ xs.length c4_) ∧ wr.cell? ⟨w25.heap.size, 0, none⟩ = some (.int .i64 E) ∧ wr.cell? ⟨w25.heap.size, 1, none⟩ = some (.slice A26_ (cutRow E xs).length c27_) ∧ wr.cell? ⟨w45.heap.size, 0, none⟩ = some (.int .i64 (E - (rightsRow E xs).sum)) ∧ wr.cell? ⟨w45.heap.size, 1, none⟩ = some (.slice A46_ (restRow E xs).length c47_)) (fun kk _ => (arrRow E xs).length - (intOf kk).toNat)
    case atStart => exact ⟨0, rfl, Nat.zero_le _, B105_, (by first | omega | (simp; omega) | simp), o92_, o93_, o94_, o95_, o96_, o97_, ho91_, o98_, o99_, o100_, o101_, o102_, o103_⟩
    case round =>
      obtain ⟨k, rfl, hk, k107_, k108_, k109_, k110_, k111_, k112_, k113_, k114_, k115_, k116_, k117_, k118_, k119_, k120_, k121_⟩ := hrel
      obtain ⟨w106, rfl⟩ : ∃ x, x = wr := ⟨_, rfl⟩
      by_cases hlt0 : k < (arrRow E xs).length
      · have h122_ : ((arrRow (E - (rightsRow E xs).sum) (restRow E xs)).length : Int) = ((arrRow E xs).length : Int) := by omega
        have h122_b : (((arrRow (E - (rightsRow E xs).sum) (restRow E xs)).length : Int) == ((arrRow E xs).length : Int)) = true := by simpa using h122_
        have h122_n : (((arrRow (E - (rightsRow E xs).sum) (restRow E xs)).length : Int) != ((arrRow E xs).length : Int)) = false := by simpa using h122_
        have h122_le : ((arrRow (E - (rightsRow E xs).sum) (restRow E xs)).length : Int) ≤ ((arrRow E xs).length : Int) := by omega
        have h122_ge : ((arrRow E xs).length : Int) ≤ ((arrRow (E - (rightsRow E xs).sum) (restRow E xs)).length : Int) := by omega
        have Hh122_ := Lib.hid h122_
        clear h122_
        have h123_ : ((rightsRow E xs).length : Int) = ((arrRow E xs).length : Int) := by omega
        have h123_b : (((rightsRow E xs).length : Int) == ((arrRow E xs).length : Int)) = true := by simpa using h123_
        have h123_n : (((rightsRow E xs).length : Int) != ((arrRow E xs).length : Int)) = false := by simpa using h123_
        have h123_le : ((rightsRow E xs).length : Int) ≤ ((arrRow E xs).length : Int) := by omega
        have h123_ge : ((arrRow E xs).length : Int) ≤ ((rightsRow E xs).length : Int) := by omega
        have Hh123_ := Lib.hid h123_
        clear h123_
        obtain ⟨b124_, f125_, rfl, b124_l, b124_h, -⟩ := k115_.ints (by omega)
        have c126_ : w106.cell? ⟨b124_, f125_ + k, none⟩ = some (.int .i64 ((arrRow (E - (rightsRow E xs).sum) (restRow E xs)).getD k 0)) := k115_.ints.at2 k (by first | omega | (simp; omega) | simp)
        have c126_i : (k : Int) < ((arrRow (E - (rightsRow E xs).sum) (restRow E xs)).length : Int) := by omega
        have c126_j : (0 : Int) ≤ (k : Int) := by omega
        have v127_g := arrRow_rg (E - (rightsRow E xs).sum) (restRow E xs) k
        obtain ⟨v127_, hv127_⟩ : ∃ v, v = (arrRow (E - (rightsRow E xs).sum) (restRow E xs)).getD k 0 := ⟨_, rfl⟩
        rw [← hv127_] at c126_ v127_g
        have Hv127_ := Lib.hid hv127_
        clear hv127_
        obtain ⟨v127_g1, v127_g2⟩ := v127_g
        obtain ⟨b128_, f129_, rfl, b128_l, b128_h, -⟩ := k114_.ints (by omega)
        have c130_ : w106.cell? ⟨b128_, f129_ + k, none⟩ = some (.int .i64 ((rightsRow E xs).getD k 0)) := k114_.ints.at2 k (by first | omega | (simp; omega) | simp)
        have c130_i : (k : Int) < ((rightsRow E xs).length : Int) := by omega
        have c130_j : (0 : Int) ≤ (k : Int) := by omega
        have v131_g := rights_rg HOK.out k
        obtain ⟨v131_, hv131_⟩ : ∃ v, v = (rightsRow E xs).getD k 0 := ⟨_, rfl⟩
        rw [← hv131_] at c130_ v131_g
        have Hv131_ := Lib.hid hv131_
        clear hv131_
        obtain ⟨v131_g1, v131_g2⟩ := v131_g
        obtain ⟨b132_, f133_, rfl, b132_l, b132_h, -⟩ := k111_.ints (by omega)
        have c134_ : w106.cell? ⟨b132_, f133_ + k, none⟩ = some (.int .i64 ((arrRow E xs).getD k 0)) := k111_.ints.at2 k (by first | omega | (simp; omega) | simp)
        have c134_i : (k : Int) < ((arrRow E xs).length : Int) := by omega
        have c134_j : (0 : Int) ≤ (k : Int) := by omega
        have v135_g := arrRow_rg E xs k
        obtain ⟨v135_, hv135_⟩ : ∃ v, v = (arrRow E xs).getD k 0 := ⟨_, rfl⟩
        rw [← hv135_] at c134_ v135_g
        have Hv135_ := Lib.hid hv135_
        clear hv135_
        obtain ⟨v135_g1, v135_g2⟩ := v135_g
        have h136_ : (v127_ + (48 * v131_)) = v135_ := by rw [Hv127_.out, Hv131_.out, Hv135_.out]; exact arr_rest_row HOK.out HRK.out (by omega)
        have h136_b : ((v127_ + (48 * v131_)) == v135_) = true := by simpa using h136_
        have h136_n : ((v127_ + (48 * v131_)) != v135_) = false := by simpa using h136_
        have h136_le : (v127_ + (48 * v131_)) ≤ v135_ := by omega
        have h136_ge : v135_ ≤ (v127_ + (48 * v131_)) := by omega
        have Hh136_ := Lib.hid h136_
        clear h136_
        have hw137_ : IntKind.i64.wrap (48 * v131_) = (48 * v131_) := IntWalk.i64_in _ (by omega)
        have hw138_ : IntKind.i64.wrap (v127_ + (48 * v131_)) = (v127_ + (48 * v131_)) := IntWalk.i64_in _ (by omega)
        go_wp2
        go_quiet (fail)
        obtain ⟨w139, hw139⟩ : ∃ x, x = w106.drewN nq := ⟨_, rfl⟩
        have hb140_ : Below w106.heap.size w106 w139 := by rw [hw139]; exact below_drewN (Below.refl _ _) _
        rw [← hw139]
        clear hw139
        clear hw137_ hw138_
        have o142_ := k109_.below hb140_ (by first | omega | (simp; omega) | simp)
        have o143_ := k110_.below hb140_ (by first | omega | (simp; omega) | simp)
        have o144_ := k111_.below hb140_ (by first | omega | (simp; omega) | simp)
        have o145_ := k112_.below hb140_ (by first | omega | (simp; omega) | simp)
        have o146_ := k113_.below hb140_ (by first | omega | (simp; omega) | simp)
        have o147_ := k114_.below hb140_ (by first | omega | (simp; omega) | simp)
        have o148_ := k115_.below hb140_ (by first | omega | (simp; omega) | simp)
        have o149_ := (hb140_.cell (p := ⟨w1.heap.size, 0, none⟩) (by first | omega | (simp; omega) | simp)).trans k116_
        have o150_ := (hb140_.cell (p := ⟨w1.heap.size, 1, none⟩) (by first | omega | (simp; omega) | simp)).trans k117_
        have o151_ := (hb140_.cell (p := ⟨w25.heap.size, 0, none⟩) (by first | omega | (simp; omega) | simp)).trans k118_
        have o152_ := (hb140_.cell (p := ⟨w25.heap.size, 1, none⟩) (by first | omega | (simp; omega) | simp)).trans k119_
        have o153_ := (hb140_.cell (p := ⟨w45.heap.size, 0, none⟩) (by first | omega | (simp; omega) | simp)).trans k120_
        have o154_ := (hb140_.cell (p := ⟨w45.heap.size, 1, none⟩) (by first | omega | (simp; omega) | simp)).trans k121_
        have z155_ := hb140_.size
        have B156_ := k107_.trans (hb140_.mono (by first | omega | (simp; omega) | simp))
        clear hb140_
        go_wp2
        go_roundw
        case rel => exact ⟨k + 1, by go_num, by omega, B156_, (by first | omega | (simp; omega) | simp), o142_, o143_, o144_, o145_, o146_, o147_, o148_, o149_, o150_, o151_, o152_, o153_, o154_⟩
        case measure => simp [intOf] <;> omega
      · obtain rfl : k = (arrRow E xs).length := by omega
        go_wp2_with fail
        refine (alive_any _).mono ?_
        rintro e w122 ⟨rfl, hb122_⟩
        have o123_ := k109_.below hb122_ (by first | omega | (simp; omega) | simp)
        have o124_ := k110_.below hb122_ (by first | omega | (simp; omega) | simp)
        have o125_ := k111_.below hb122_ (by first | omega | (simp; omega) | simp)
        have o126_ := k112_.below hb122_ (by first | omega | (simp; omega) | simp)
        have o127_ := k113_.below hb122_ (by first | omega | (simp; omega) | simp)
        have o128_ := k114_.below hb122_ (by first | omega | (simp; omega) | simp)
        have o129_ := k115_.below hb122_ (by first | omega | (simp; omega) | simp)
        have o130_ := (hb122_.cell (p := ⟨w1.heap.size, 0, none⟩) (by first | omega | (simp; omega) | simp)).trans k116_
        have o131_ := (hb122_.cell (p := ⟨w1.heap.size, 1, none⟩) (by first | omega | (simp; omega) | simp)).trans k117_
        have o132_ := (hb122_.cell (p := ⟨w25.heap.size, 0, none⟩) (by first | omega | (simp; omega) | simp)).trans k118_
        have o133_ := (hb122_.cell (p := ⟨w25.heap.size, 1, none⟩) (by first | omega | (simp; omega) | simp)).trans k119_
        have o134_ := (hb122_.cell (p := ⟨w45.heap.size, 0, none⟩) (by first | omega | (simp; omega) | simp)).trans k120_
        have o135_ := (hb122_.cell (p := ⟨w45.heap.size, 1, none⟩) (by first | omega | (simp; omega) | simp)).trans k121_
        have z136_ := hb122_.size
        have B137_ := k107_.trans (hb122_.mono (by first | omega | (simp; omega) | simp))
        clear hb122_
        go_wp2_with fail
        refine (implArrivalAwards_any E A26_ c27_ (cutRow E xs) _ _ _ o126_.ints (by first | omega | (simp; omega) | simp) (by rw [cutRow_length]; omega)).mono ?_
        rintro e w138 ⟨A139_, c140_, rfl, ho141_, hb138_⟩
        have o142_ := o123_.below hb138_ (by first | omega | (simp; omega) | simp)
        have o143_ := o124_.below hb138_ (by first | omega | (simp; omega) | simp)
        have o144_ := o125_.below hb138_ (by first | omega | (simp; omega) | simp)
        have o145_ := o126_.below hb138_ (by first | omega | (simp; omega) | simp)
        have o146_ := o127_.below hb138_ (by first | omega | (simp; omega) | simp)
        have o147_ := o128_.below hb138_ (by first | omega | (simp; omega) | simp)
        have o148_ := o129_.below hb138_ (by first | omega | (simp; omega) | simp)
        have o149_ := (hb138_.cell (p := ⟨w1.heap.size, 0, none⟩) (by first | omega | (simp; omega) | simp)).trans o130_
        have o150_ := (hb138_.cell (p := ⟨w1.heap.size, 1, none⟩) (by first | omega | (simp; omega) | simp)).trans o131_
        have o151_ := (hb138_.cell (p := ⟨w25.heap.size, 0, none⟩) (by first | omega | (simp; omega) | simp)).trans o132_
        have o152_ := (hb138_.cell (p := ⟨w25.heap.size, 1, none⟩) (by first | omega | (simp; omega) | simp)).trans o133_
        have o153_ := (hb138_.cell (p := ⟨w45.heap.size, 0, none⟩) (by first | omega | (simp; omega) | simp)).trans o134_
        have o154_ := (hb138_.cell (p := ⟨w45.heap.size, 1, none⟩) (by first | omega | (simp; omega) | simp)).trans o135_
        have z155_ := hb138_.size
        have B156_ := B137_.trans (hb138_.mono (by first | omega | (simp; omega) | simp))
        clear hb138_
        have H157_ : Hid ((arrRow E (cutRow E xs)) = (arrRow E xs)) := arrRow_cut HOK.out (cut_ok HOK.out)
        go_wp2_with fail
        refine (sameInts_yes A139_ A15_ c140_ c16_ (arrRow E (cutRow E xs)) (arrRow E xs) _ _ _ _ _ ho141_.ints o144_.ints (by have e := arrRow_len E (cutRow E xs); omega) H157_.out).mono ?_
        rintro e w158 ⟨rfl, hb158_⟩
        have o159_ := o142_.below hb158_ (by first | omega | (simp; omega) | simp)
        have o160_ := o143_.below hb158_ (by first | omega | (simp; omega) | simp)
        have o161_ := o144_.below hb158_ (by first | omega | (simp; omega) | simp)
        have o162_ := o145_.below hb158_ (by first | omega | (simp; omega) | simp)
        have o163_ := o146_.below hb158_ (by first | omega | (simp; omega) | simp)
        have o164_ := o147_.below hb158_ (by first | omega | (simp; omega) | simp)
        have o165_ := o148_.below hb158_ (by first | omega | (simp; omega) | simp)
        have o166_ := ho141_.below hb158_ (by first | omega | (simp; omega) | simp)
        have o167_ := (hb158_.cell (p := ⟨w1.heap.size, 0, none⟩) (by first | omega | (simp; omega) | simp)).trans o149_
        have o168_ := (hb158_.cell (p := ⟨w1.heap.size, 1, none⟩) (by first | omega | (simp; omega) | simp)).trans o150_
        have o169_ := (hb158_.cell (p := ⟨w25.heap.size, 0, none⟩) (by first | omega | (simp; omega) | simp)).trans o151_
        have o170_ := (hb158_.cell (p := ⟨w25.heap.size, 1, none⟩) (by first | omega | (simp; omega) | simp)).trans o152_
        have o171_ := (hb158_.cell (p := ⟨w45.heap.size, 0, none⟩) (by first | omega | (simp; omega) | simp)).trans o153_
        have o172_ := (hb158_.cell (p := ⟨w45.heap.size, 1, none⟩) (by first | omega | (simp; omega) | simp)).trans o154_
        have z173_ := hb158_.size
        have B174_ := B156_.trans (hb158_.mono (by first | omega | (simp; omega) | simp))
        clear hb158_
        go_wp2
        go_ret
        exact ⟨ret_bool (by first | exact rfl | exact h24_b.trans rfl), B174_⟩

set_option maxRecDepth 10000 in
set_option maxHeartbeats 400000 in
theorem fnArrivalCut_big (A0 : Option Addr) (c0 : Nat) (bs : List Int) (w : World) (hl : ¬ bs.length ≤ 1048576) (hm : bs.length ≤ 9223372036854775807) :
    Calls Try.prog 7 #[.slice A0 bs.length c0] w fun e w' => e = .returned (.bool true) ∧ Below w.heap.size w w' := by
  go_enter Try.func7, Try.ntmps7
  go_wp2
  go_ret
  exact ⟨rfl, Below.refl _ _⟩

theorem fnArrivalCut_all (A0 : Option Addr) (c0 : Nat) (bs : List Int) (w : World) (h0 : Bytes w w.heap.size A0 bs) (hm : bs.length ≤ 9223372036854775807) (hc0 : bs.length ≤ c0) :
    Calls Try.prog 7 #[.slice A0 bs.length c0] w fun e w' => e = .returned (.bool true) ∧ Below w.heap.size w w' := by
  by_cases hl : bs.length ≤ 1048576
  · exact fnArrivalCut_walk A0 c0 bs w h0 hl hc0
  · exact fnArrivalCut_big A0 c0 bs w hl hm

end Go.Proofs.Ytmkmipgboecdaaa
