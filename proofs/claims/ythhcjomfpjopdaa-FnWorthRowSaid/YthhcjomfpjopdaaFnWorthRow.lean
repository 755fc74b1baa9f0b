/-
  The law of WorthRow returns true for every code, and writes nothing that was there. No condition.
-/
import Derived.Test.YthhcjomfpjopdaaGA
import Derived.Test.YthhcjomfpjopdaaDrawW
import Derived.Test.YthhcjomfpjopdaaGame
import Derived.Test.YthhcjomfpjopdaaGame6I
import Derived.Test.YthhcjomfpjopdaaGB
import Derived.Test.YthhcjomfpjopdaaGC
import Derived.Test.YthhcjomfpjopdaaFx
import Derived.Deep.RegionHeld3
namespace Go.Proofs.Ythhcjomfpjopdaa
open Go.RowKit

set_option maxRecDepth 10000 in
set_option maxHeartbeats 2000000 in
theorem fnWorthRow_walk (A0 : Option Addr) (c0 : Nat) (bs : List Int) (w : World) (h0 : Bytes w w.heap.size A0 bs) (hl : bs.length ≤ 1048576) (hc0 : bs.length ≤ c0) :
    Calls Try.prog 7 #[.slice A0 bs.length c0] w fun e w' => e = .returned (.bool true) ∧ Below w.heap.size w w' := by
  have hlm : bs.length ≤ 9223372036854775807 := by omega
  go_enter Try.func7, Try.ntmps7
  have Htrue : Hid True := trivial
  have hc0u := hc0
  have h0u := h0
  have hlmu := hlm
  go_wp2_with fail
  refine (drawWorthRow_any A0 c0 bs _ (h0.more (by first | omega | (simp; omega) | simp)) hlm hc0).mono ?_
  rintro e w1 ⟨E, A3_, c4_, xs, hx5, rfl, ho5_, hb2_⟩
  have o6_ := h0.below hb2_ (by first | omega | (simp; omega) | simp)
  have z7_ := hb2_.size
  have B8_ := (Below.refl w.heap.size w).trans (hb2_.mono (by first | omega | (simp; omega) | simp))
  clear hb2_
  have hlbsxs : xs.length ≤ 1152921504606846976 := by omega
  obtain ⟨hp1, hp2⟩ := pow_set hx5
  have o9_ := o6_.below ((Below.refl _ _).alloc (Nat.le_refl _) (.cells #[.int .i64 E, .slice A3_ xs.length c4_] 25)) (by first | omega | (simp; omega) | simp)
  have o10_ := ho5_.alloc (by first | omega | (simp; omega) | simp) (.cells #[.int .i64 E, .slice A3_ xs.length c4_] 25)
  have B11_ := B8_.alloc (by first | omega | (simp; omega) | simp) (.cells #[.int .i64 E, .slice A3_ xs.length c4_] 25)
  have a12_ : (w1.alloc (.cells #[.int .i64 E, .slice A3_ xs.length c4_] 25)).cell? ⟨w1.heap.size, 0, none⟩ = some (.int .i64 E) := by simp [go_sem]
  have a13_ : (w1.alloc (.cells #[.int .i64 E, .slice A3_ xs.length c4_] 25)).cell? ⟨w1.heap.size, 1, none⟩ = some (.slice A3_ xs.length c4_) := by simp [go_sem]
  go_wp2_with fail
  refine (implWorthRow_any E A3_ c4_ xs _ _ _ o10_.ints (by first | omega | (simp; omega) | simp) hlbsxs).mono ?_
  rintro e w14 ⟨A15_, c16_, rfl, ho17_, hb14_⟩
  have ho17_ : Own w14 (w1.heap.size + 1) w14.heap.size A15_ (worthRow E xs) := ho17_.more (by simp) (Nat.le_refl _)
  have o18_ := o9_.below hb14_ (by first | omega | (simp; omega) | simp)
  have o19_ := o10_.below hb14_ (by first | omega | (simp; omega) | simp)
  have o20_ := (hb14_.cell (p := ⟨w1.heap.size, 0, none⟩) (by first | omega | (simp; omega) | simp)).trans a12_
  have o21_ := (hb14_.cell (p := ⟨w1.heap.size, 1, none⟩) (by first | omega | (simp; omega) | simp)).trans a13_
  have z22_ := hb14_.size
  try simp at z22_
  have B23_ := B11_.trans (hb14_.mono (by first | omega | (simp; omega) | simp))
  clear hb14_
  go_wp2_with fail
  refine (specWorthRow_any E A3_ c4_ xs _ _ _ o19_.ints (by first | omega | (simp; omega) | simp) hlbsxs).mono ?_
  rintro e w24 ⟨A25_, c26_, rfl, ho27_, hb24_⟩
  have o28_ := o18_.below hb24_ (by first | omega | (simp; omega) | simp)
  have o29_ := o19_.below hb24_ (by first | omega | (simp; omega) | simp)
  have o30_ := ho17_.below hb24_ (by first | omega | (simp; omega) | simp)
  have o31_ := (hb24_.cell (p := ⟨w1.heap.size, 0, none⟩) (by first | omega | (simp; omega) | simp)).trans o20_
  have o32_ := (hb24_.cell (p := ⟨w1.heap.size, 1, none⟩) (by first | omega | (simp; omega) | simp)).trans o21_
  have z33_ := hb24_.size
  have B34_ := B23_.trans (hb24_.mono (by first | omega | (simp; omega) | simp))
  clear hb24_
  go_wp2_with fail
  refine (sameInts_yes A15_ A25_ c16_ c26_ (worthRow E xs) (worthRow E xs) _ _ _ _ _ o30_.ints ho27_.ints (by have e := worthRow_len E xs; omega) rfl).mono ?_
  rintro e w35 ⟨rfl, hb35_⟩
  have o36_ := o28_.below hb35_ (by first | omega | (simp; omega) | simp)
  have o37_ := o29_.below hb35_ (by first | omega | (simp; omega) | simp)
  have o38_ := o30_.below hb35_ (by first | omega | (simp; omega) | simp)
  have o39_ := ho27_.below hb35_ (by first | omega | (simp; omega) | simp)
  have o40_ := (hb35_.cell (p := ⟨w1.heap.size, 0, none⟩) (by first | omega | (simp; omega) | simp)).trans o31_
  have o41_ := (hb35_.cell (p := ⟨w1.heap.size, 1, none⟩) (by first | omega | (simp; omega) | simp)).trans o32_
  have z42_ := hb35_.size
  have B43_ := B34_.trans (hb35_.mono (by first | omega | (simp; omega) | simp))
  clear hb35_
  by_cases h44_ : ((worthRow E xs).length : Int) = 0
  · have h44_b : (((worthRow E xs).length : Int) == 0) = true := by simpa using h44_
    have h44_n : (((worthRow E xs).length : Int) != 0) = false := by simpa using h44_
    have h44_le : ((worthRow E xs).length : Int) ≤ 0 := by omega
    have h44_ge : 0 ≤ ((worthRow E xs).length : Int) := by omega
    have Hh44_ := Lib.hid h44_
    clear h44_
    have H45_ : Hid (caseOkB E xs = false) := worthRow_no (by omega)
    go_wp2_with fail
    refine (implCaseOk_any E A3_ c4_ xs _ _ _ o37_.ints (by first | omega | (simp; omega) | simp) (by omega)).mono ?_
    rintro e w46 ⟨he, hb46_⟩
    rw [H45_.out] at he
    subst he
    have o47_ := o36_.below hb46_ (by first | omega | (simp; omega) | simp)
    have o48_ := o37_.below hb46_ (by first | omega | (simp; omega) | simp)
    have o49_ := o38_.below hb46_ (by first | omega | (simp; omega) | simp)
    have o50_ := o39_.below hb46_ (by first | omega | (simp; omega) | simp)
    have o51_ := (hb46_.cell (p := ⟨w1.heap.size, 0, none⟩) (by first | omega | (simp; omega) | simp)).trans o40_
    have o52_ := (hb46_.cell (p := ⟨w1.heap.size, 1, none⟩) (by first | omega | (simp; omega) | simp)).trans o41_
    have z53_ := hb46_.size
    have B54_ := B43_.trans (hb46_.mono (by first | omega | (simp; omega) | simp))
    clear hb46_
    go_wp2_with fail
    refine (alive_any _).mono ?_
    rintro e w55 ⟨rfl, hb55_⟩
    have o56_ := o47_.below hb55_ (by first | omega | (simp; omega) | simp)
    have o57_ := o48_.below hb55_ (by first | omega | (simp; omega) | simp)
    have o58_ := o49_.below hb55_ (by first | omega | (simp; omega) | simp)
    have o59_ := o50_.below hb55_ (by first | omega | (simp; omega) | simp)
    have o60_ := (hb55_.cell (p := ⟨w1.heap.size, 0, none⟩) (by first | omega | (simp; omega) | simp)).trans o51_
    have o61_ := (hb55_.cell (p := ⟨w1.heap.size, 1, none⟩) (by first | omega | (simp; omega) | simp)).trans o52_
    have z62_ := hb55_.size
    have B63_ := B54_.trans (hb55_.mono (by first | omega | (simp; omega) | simp))
    clear hb55_
    go_wp2
    go_ret
    exact ⟨ret_bool (by first | exact rfl | exact h44_b.trans rfl), B63_⟩
  · have h44_b : (((worthRow E xs).length : Int) == 0) = false := by simpa using h44_
    have h44_n : (((worthRow E xs).length : Int) != 0) = true := by simpa using h44_
    have HOK : Hid (caseOkB E xs = true) := worthRow_ok (by omega)
    have hbd := caseOk_bd HOK.out
    have HWL : Hid (((worthRow E xs).length : Int) = 2 ^ xs.length) := worthRow_pow HOK.out
    have HRL : Hid ((rightsRow E xs).length = xs.length) := rightsRow_length E xs
    have hrl4 : (rightsRow E xs).length ≤ 4 := by have e := HRL.out; omega
    have hwl32 : (worthRow E xs).length ≤ 32 := worthRow_len E xs
    go_wp2_with fail
    refine (implCutCase_yes E A3_ c4_ xs _ _ _ o37_.ints (by first | omega | (simp; omega) | simp) HOK.out).mono ?_
    rintro e w45 ⟨A46_, c47_, rfl, ho48_, hb45_⟩
    have o49_ := o36_.below hb45_ (by first | omega | (simp; omega) | simp)
    have o50_ := o37_.below hb45_ (by first | omega | (simp; omega) | simp)
    have o51_ := o38_.below hb45_ (by first | omega | (simp; omega) | simp)
    have o52_ := o39_.below hb45_ (by first | omega | (simp; omega) | simp)
    have o53_ := (hb45_.cell (p := ⟨w1.heap.size, 0, none⟩) (by first | omega | (simp; omega) | simp)).trans o40_
    have o54_ := (hb45_.cell (p := ⟨w1.heap.size, 1, none⟩) (by first | omega | (simp; omega) | simp)).trans o41_
    have z55_ := hb45_.size
    have B56_ := B43_.trans (hb45_.mono (by first | omega | (simp; omega) | simp))
    clear hb45_
    have o57_ := o49_.below ((Below.refl _ _).alloc (Nat.le_refl _) (.cells #[.int .i64 E, .slice A46_ (cutRow E xs).length c47_] 25)) (by first | omega | (simp; omega) | simp)
    have o58_ := o50_.alloc (by first | omega | (simp; omega) | simp) (.cells #[.int .i64 E, .slice A46_ (cutRow E xs).length c47_] 25)
    have o59_ := o51_.alloc (by first | omega | (simp; omega) | simp) (.cells #[.int .i64 E, .slice A46_ (cutRow E xs).length c47_] 25)
    have o60_ := o52_.alloc (by first | omega | (simp; omega) | simp) (.cells #[.int .i64 E, .slice A46_ (cutRow E xs).length c47_] 25)
    have o61_ := ho48_.alloc (by first | omega | (simp; omega) | simp) (.cells #[.int .i64 E, .slice A46_ (cutRow E xs).length c47_] 25)
    have o62_ := cell_alloc (o := (.cells #[.int .i64 E, .slice A46_ (cutRow E xs).length c47_] 25)) o53_ (by first | omega | (simp; omega) | simp)
    have o63_ := cell_alloc (o := (.cells #[.int .i64 E, .slice A46_ (cutRow E xs).length c47_] 25)) o54_ (by first | omega | (simp; omega) | simp)
    have B64_ := B56_.alloc (by first | omega | (simp; omega) | simp) (.cells #[.int .i64 E, .slice A46_ (cutRow E xs).length c47_] 25)
    have a65_ : (w45.alloc (.cells #[.int .i64 E, .slice A46_ (cutRow E xs).length c47_] 25)).cell? ⟨w45.heap.size, 0, none⟩ = some (.int .i64 E) := by simp [go_sem]
    have a66_ : (w45.alloc (.cells #[.int .i64 E, .slice A46_ (cutRow E xs).length c47_] 25)).cell? ⟨w45.heap.size, 1, none⟩ = some (.slice A46_ (cutRow E xs).length c47_) := by simp [go_sem]
    go_wp2_with fail
    refine (implRightsOf_yes E A3_ c4_ xs _ _ _ o58_.ints (by first | omega | (simp; omega) | simp) HOK.out).mono ?_
    rintro e w67 ⟨A68_, c69_, rfl, ho70_, hb67_⟩
    have ho70_ : Own w67 (w45.heap.size + 1) w67.heap.size A68_ (rightsRow E xs) := ho70_.more (by simp) (Nat.le_refl _)
    have o71_ := o57_.below hb67_ (by first | omega | (simp; omega) | simp)
    have o72_ := o58_.below hb67_ (by first | omega | (simp; omega) | simp)
    have o73_ := o59_.below hb67_ (by first | omega | (simp; omega) | simp)
    have o74_ := o60_.below hb67_ (by first | omega | (simp; omega) | simp)
    have o75_ := o61_.below hb67_ (by first | omega | (simp; omega) | simp)
    have o76_ := (hb67_.cell (p := ⟨w1.heap.size, 0, none⟩) (by first | omega | (simp; omega) | simp)).trans o62_
    have o77_ := (hb67_.cell (p := ⟨w1.heap.size, 1, none⟩) (by first | omega | (simp; omega) | simp)).trans o63_
    have o78_ := (hb67_.cell (p := ⟨w45.heap.size, 0, none⟩) (by first | omega | (simp; omega) | simp)).trans a65_
    have o79_ := (hb67_.cell (p := ⟨w45.heap.size, 1, none⟩) (by first | omega | (simp; omega) | simp)).trans a66_
    have z80_ := hb67_.size
    try simp at z80_
    have B81_ := B64_.trans (hb67_.mono (by first | omega | (simp; omega) | simp))
    clear hb67_
    go_wp2
    go_loopw [8] (fun i wr => ∃ k : Nat, i = .int .i64 k ∧ (k ≤ (rightsRow E xs).length) ∧ Below w.heap.size w wr ∧ w67.heap.size ≤ wr.heap.size ∧ Bytes wr (w.heap.size) A0 bs ∧ Own wr (w.heap.size) (w1.heap.size) A3_ xs ∧ Own wr (w1.heap.size + 1) (w14.heap.size) A15_ (worthRow E xs) ∧ Own wr (w14.heap.size) (w24.heap.size) A25_ (worthRow E xs) ∧ Own wr (w35.heap.size) (w45.heap.size) A46_ (cutRow E xs) ∧ Own wr (w45.heap.size + 1) (w67.heap.size) A68_ (rightsRow E xs) ∧ wr.cell? ⟨w1.heap.size, 0, none⟩ = some (.int .i64 E) ∧ wr.cell? ⟨w1.heap.size, 1, none⟩ = some (.slice A3_ xs.length c4_) ∧ wr.cell? ⟨w45.heap.size, 0, none⟩ = some (.int .i64 E) ∧ wr.cell? ⟨w45.heap.size, 1, none⟩ = some (.slice A46_ (cutRow E xs).length c47_)) (fun i _ => (rightsRow E xs).length - (intOf i).toNat)
    case atStart => exact ⟨0, rfl, Nat.zero_le _, B81_, (by first | omega | (simp; omega) | simp), o71_, o72_, o73_, o74_, o75_, ho70_, o76_, o77_, o78_, o79_⟩
    case round =>
      obtain ⟨k, rfl, hk, k83_, k84_, k85_, k86_, k87_, k88_, k89_, k90_, k91_, k92_, k93_, k94_⟩ := hrel
      obtain ⟨w82, rfl⟩ : ∃ x, x = wr := ⟨_, rfl⟩
      by_cases hlt0 : k < (rightsRow E xs).length
      · obtain ⟨hk1, hk2⟩ := pow_set (n := k) (by omega)
        have hk3 : ((2 : Int) ^ k) < ((worthRow E xs).length : Int) := by have e := pow_not_ge (k := k) (n := xs.length) (by have e := HRL.out; omega); have e2 := HWL.out; omega
        obtain ⟨x9, hx9⟩ : ∃ x : Nat, (2 : Int) ^ k = (x : Int) := ⟨((2 : Int) ^ k).toNat, by omega⟩
        have Hx9 := Lib.hid hx9
        have hx9b : x9 < (worthRow E xs).length := by omega
        have h95_ : ¬ ((x9 : Int) ≥ ((worthRow E xs).length : Int)) := by omega
        have h95_d : decide ((x9 : Int) ≥ ((worthRow E xs).length : Int)) = false := decide_eq_false h95_
        obtain ⟨b96_, f97_, rfl, b96_l, b96_h, -⟩ := k87_.ints (by omega)
        have c98_ : w82.cell? ⟨b96_, f97_ + x9, none⟩ = some (.int .i64 ((worthRow E xs).getD x9 0)) := k87_.ints.at2 x9 (by first | omega | (simp; omega) | simp)
        have c98_i : (x9 : Int) < ((worthRow E xs).length : Int) := by omega
        have c98_j : (0 : Int) ≤ (x9 : Int) := by omega
        have v99_g := worthRow_bd E xs x9
        obtain ⟨v99_, hv99_⟩ : ∃ v, v = (worthRow E xs).getD x9 0 := ⟨_, rfl⟩
        rw [← hv99_] at c98_ v99_g
        have Hv99_ := Lib.hid hv99_
        clear hv99_
        obtain ⟨v99_g1, v99_g2⟩ := v99_g
        obtain ⟨b100_, f101_, rfl, b100_l, b100_h, -⟩ := k90_.ints (by omega)
        have c102_ : w82.cell? ⟨b100_, f101_ + k, none⟩ = some (.int .i64 ((rightsRow E xs).getD k 0)) := k90_.ints.at2 k (by first | omega | (simp; omega) | simp)
        have c102_i : (k : Int) < ((rightsRow E xs).length : Int) := by omega
        have c102_j : (0 : Int) ≤ (k : Int) := by omega
        obtain ⟨v103_, hv103_⟩ : ∃ v, v = (rightsRow E xs).getD k 0 := ⟨_, rfl⟩
        rw [← hv103_] at c102_
        have Hv103_ := Lib.hid hv103_
        clear hv103_
        have h104_ : v99_ = v103_ := by rw [Hv99_.out, Hv103_.out]; exact worthRow_one HOK.out (by have e := HRL.out; omega) Hx9.out
        have h104_b : (v99_ == v103_) = true := by simpa using h104_
        have h104_n : (v99_ != v103_) = false := by simpa using h104_
        have h104_le : v99_ ≤ v103_ := by omega
        have h104_ge : v103_ ≤ v99_ := by omega
        have Hh104_ := Lib.hid h104_
        clear h104_
        have hw105_ : IntKind.i64.wrap (x9 : Int) = (x9 : Int) := IntWalk.i64_in _ (by omega)
        have hw106_ : IntKind.i64.wrap (x9 : Int) = (x9 : Int) := IntWalk.i64_in _ (by omega)
        go_wp2
        go_quiet (fail)
        obtain ⟨w107, hw107⟩ : ∃ x, x = w82.drewN nq := ⟨_, rfl⟩
        have hb108_ : Below w82.heap.size w82 w107 := by rw [hw107]; exact below_drewN (Below.refl _ _) _
        rw [← hw107]
        clear hw107
        clear hw105_ hw106_
        have o110_ := k85_.below hb108_ (by first | omega | (simp; omega) | simp)
        have o111_ := k86_.below hb108_ (by first | omega | (simp; omega) | simp)
        have o112_ := k87_.below hb108_ (by first | omega | (simp; omega) | simp)
        have o113_ := k88_.below hb108_ (by first | omega | (simp; omega) | simp)
        have o114_ := k89_.below hb108_ (by first | omega | (simp; omega) | simp)
        have o115_ := k90_.below hb108_ (by first | omega | (simp; omega) | simp)
        have o116_ := (hb108_.cell (p := ⟨w1.heap.size, 0, none⟩) (by first | omega | (simp; omega) | simp)).trans k91_
        have o117_ := (hb108_.cell (p := ⟨w1.heap.size, 1, none⟩) (by first | omega | (simp; omega) | simp)).trans k92_
        have o118_ := (hb108_.cell (p := ⟨w45.heap.size, 0, none⟩) (by first | omega | (simp; omega) | simp)).trans k93_
        have o119_ := (hb108_.cell (p := ⟨w45.heap.size, 1, none⟩) (by first | omega | (simp; omega) | simp)).trans k94_
        have z120_ := hb108_.size
        have B121_ := k83_.trans (hb108_.mono (by first | omega | (simp; omega) | simp))
        clear hb108_
        go_wp2
        go_roundw
        case rel => exact ⟨k + 1, by go_num, by omega, B121_, (by first | omega | (simp; omega) | simp), o110_, o111_, o112_, o113_, o114_, o115_, o116_, o117_, o118_, o119_⟩
        case measure => simp [intOf] <;> omega
      · obtain rfl : k = (rightsRow E xs).length := by omega
        go_wp2
        go_loopw [9] (fun i wr => ∃ m : Nat, i = .int .i64 m ∧ (m ≤ (worthRow E xs).length) ∧ Below w.heap.size w wr ∧ w82.heap.size ≤ wr.heap.size ∧ Bytes wr (w.heap.size) A0 bs ∧ Own wr (w.heap.size) (w1.heap.size) A3_ xs ∧ Own wr (w1.heap.size + 1) (w14.heap.size) A15_ (worthRow E xs) ∧ Own wr (w14.heap.size) (w24.heap.size) A25_ (worthRow E xs) ∧ Own wr (w35.heap.size) (w45.heap.size) A46_ (cutRow E xs) ∧ Own wr (w45.heap.size + 1) (w67.heap.size) A68_ (rightsRow E xs) ∧ wr.cell? ⟨w1.heap.size, 0, none⟩ = some (.int .i64 E) ∧ wr.cell? ⟨w1.heap.size, 1, none⟩ = some (.slice A3_ xs.length c4_) ∧ wr.cell? ⟨w45.heap.size, 0, none⟩ = some (.int .i64 E) ∧ wr.cell? ⟨w45.heap.size, 1, none⟩ = some (.slice A46_ (cutRow E xs).length c47_)) (fun i _ => (worthRow E xs).length - (intOf i).toNat)
        case atStart => exact ⟨0, rfl, Nat.zero_le _, k83_, (by first | omega | (simp; omega) | simp), k85_, k86_, k87_, k88_, k89_, k90_, k91_, k92_, k93_, k94_⟩
        case round =>
          obtain ⟨m, rfl, hm, k96_, k97_, k98_, k99_, k100_, k101_, k102_, k103_, k104_, k105_, k106_, k107_⟩ := hrel
          obtain ⟨w95, rfl⟩ : ∃ x, x = wr := ⟨_, rfl⟩
          by_cases hlt2 : m < (worthRow E xs).length
          · obtain ⟨x9, hx9⟩ : ∃ x : Nat, ((worthRow E xs).length : Int) - 1 - (m : Int) = (x : Int) := ⟨(((worthRow E xs).length : Int) - 1 - (m : Int)).toNat, by omega⟩
            have Hx9 := Lib.hid hx9
            have hx9b : x9 < (worthRow E xs).length := by omega
            obtain ⟨b108_, f109_, rfl, b108_l, b108_h, -⟩ := k100_.ints (by omega)
            have c110_ : w95.cell? ⟨b108_, f109_ + m, none⟩ = some (.int .i64 ((worthRow E xs).getD m 0)) := k100_.ints.at2 m (by first | omega | (simp; omega) | simp)
            have c110_i : (m : Int) < ((worthRow E xs).length : Int) := by omega
            have c110_j : (0 : Int) ≤ (m : Int) := by omega
            have v111_g := worthRow_bd E xs m
            obtain ⟨v111_, hv111_⟩ : ∃ v, v = (worthRow E xs).getD m 0 := ⟨_, rfl⟩
            rw [← hv111_] at c110_ v111_g
            have Hv111_ := Lib.hid hv111_
            clear hv111_
            obtain ⟨v111_g1, v111_g2⟩ := v111_g
            have c112_ : w95.cell? ⟨b108_, f109_ + x9, none⟩ = some (.int .i64 ((worthRow E xs).getD x9 0)) := k100_.ints.at2 x9 (by first | omega | (simp; omega) | simp)
            have c112_i : (x9 : Int) < ((worthRow E xs).length : Int) := by omega
            have c112_j : (0 : Int) ≤ (x9 : Int) := by omega
            have v113_g := worthRow_bd E xs x9
            obtain ⟨v113_, hv113_⟩ : ∃ v, v = (worthRow E xs).getD x9 0 := ⟨_, rfl⟩
            rw [← hv113_] at c112_ v113_g
            have Hv113_ := Lib.hid hv113_
            clear hv113_
            obtain ⟨v113_g1, v113_g2⟩ := v113_g
            have h114_ : ¬ ((v111_ + v113_) > E) := by rw [Hv111_.out, Hv113_.out]; have e := worthRow_both HOK.out (s := m) (by omega) Hx9.out; omega
            have h114_d : decide ((v111_ + v113_) > E) = false := decide_eq_false h114_
            have hw115_ : IntKind.i64.wrap (((worthRow E xs).length : Int) - 1) = (((worthRow E xs).length : Int) - 1) := IntWalk.i64_in _ (by omega)
            have hw116_ : IntKind.i64.wrap (x9 : Int) = (x9 : Int) := IntWalk.i64_in _ (by omega)
            have hw117_ : IntKind.i64.wrap (v111_ + v113_) = (v111_ + v113_) := IntWalk.i64_in _ (by omega)
            go_wp2
            go_quiet (fail)
            obtain ⟨w118, hw118⟩ : ∃ x, x = w95.drewN nq := ⟨_, rfl⟩
            have hb119_ : Below w95.heap.size w95 w118 := by rw [hw118]; exact below_drewN (Below.refl _ _) _
            rw [← hw118]
            clear hw118
            clear hw115_ hw116_ hw117_
            have o121_ := k98_.below hb119_ (by first | omega | (simp; omega) | simp)
            have o122_ := k99_.below hb119_ (by first | omega | (simp; omega) | simp)
            have o123_ := k100_.below hb119_ (by first | omega | (simp; omega) | simp)
            have o124_ := k101_.below hb119_ (by first | omega | (simp; omega) | simp)
            have o125_ := k102_.below hb119_ (by first | omega | (simp; omega) | simp)
            have o126_ := k103_.below hb119_ (by first | omega | (simp; omega) | simp)
            have o127_ := (hb119_.cell (p := ⟨w1.heap.size, 0, none⟩) (by first | omega | (simp; omega) | simp)).trans k104_
            have o128_ := (hb119_.cell (p := ⟨w1.heap.size, 1, none⟩) (by first | omega | (simp; omega) | simp)).trans k105_
            have o129_ := (hb119_.cell (p := ⟨w45.heap.size, 0, none⟩) (by first | omega | (simp; omega) | simp)).trans k106_
            have o130_ := (hb119_.cell (p := ⟨w45.heap.size, 1, none⟩) (by first | omega | (simp; omega) | simp)).trans k107_
            have z131_ := hb119_.size
            have B132_ := k96_.trans (hb119_.mono (by first | omega | (simp; omega) | simp))
            clear hb119_
            go_wp2
            go_roundw
            case rel => exact ⟨m + 1, by go_num, by omega, B132_, (by first | omega | (simp; omega) | simp), o121_, o122_, o123_, o124_, o125_, o126_, o127_, o128_, o129_, o130_⟩
            case measure => simp [intOf] <;> omega
          · obtain rfl : m = (worthRow E xs).length := by omega
            go_wp2_with fail
            refine (implWorthRow_any E A46_ c47_ (cutRow E xs) _ _ _ k102_.ints (by first | omega | (simp; omega) | simp) (by rw [cutRow_length]; omega)).mono ?_
            rintro e w108 ⟨A109_, c110_, rfl, ho111_, hb108_⟩
            have o112_ := k98_.below hb108_ (by first | omega | (simp; omega) | simp)
            have o113_ := k99_.below hb108_ (by first | omega | (simp; omega) | simp)
            have o114_ := k100_.below hb108_ (by first | omega | (simp; omega) | simp)
            have o115_ := k101_.below hb108_ (by first | omega | (simp; omega) | simp)
            have o116_ := k102_.below hb108_ (by first | omega | (simp; omega) | simp)
            have o117_ := k103_.below hb108_ (by first | omega | (simp; omega) | simp)
            have o118_ := (hb108_.cell (p := ⟨w1.heap.size, 0, none⟩) (by first | omega | (simp; omega) | simp)).trans k104_
            have o119_ := (hb108_.cell (p := ⟨w1.heap.size, 1, none⟩) (by first | omega | (simp; omega) | simp)).trans k105_
            have o120_ := (hb108_.cell (p := ⟨w45.heap.size, 0, none⟩) (by first | omega | (simp; omega) | simp)).trans k106_
            have o121_ := (hb108_.cell (p := ⟨w45.heap.size, 1, none⟩) (by first | omega | (simp; omega) | simp)).trans k107_
            have z122_ := hb108_.size
            have B123_ := k96_.trans (hb108_.mono (by first | omega | (simp; omega) | simp))
            clear hb108_
            have H124_ : Hid ((worthRow E (cutRow E xs)) = (worthRow E xs)) := worthRow_cut HOK.out
            go_wp2_with fail
            refine (sameInts_yes A109_ A15_ c110_ c16_ (worthRow E (cutRow E xs)) (worthRow E xs) _ _ _ _ _ ho111_.ints o114_.ints (by have e := worthRow_len E (cutRow E xs); omega) H124_.out).mono ?_
            rintro e w125 ⟨rfl, hb125_⟩
            have o126_ := o112_.below hb125_ (by first | omega | (simp; omega) | simp)
            have o127_ := o113_.below hb125_ (by first | omega | (simp; omega) | simp)
            have o128_ := o114_.below hb125_ (by first | omega | (simp; omega) | simp)
            have o129_ := o115_.below hb125_ (by first | omega | (simp; omega) | simp)
            have o130_ := o116_.below hb125_ (by first | omega | (simp; omega) | simp)
            have o131_ := o117_.below hb125_ (by first | omega | (simp; omega) | simp)
            have o132_ := ho111_.below hb125_ (by first | omega | (simp; omega) | simp)
            have o133_ := (hb125_.cell (p := ⟨w1.heap.size, 0, none⟩) (by first | omega | (simp; omega) | simp)).trans o118_
            have o134_ := (hb125_.cell (p := ⟨w1.heap.size, 1, none⟩) (by first | omega | (simp; omega) | simp)).trans o119_
            have o135_ := (hb125_.cell (p := ⟨w45.heap.size, 0, none⟩) (by first | omega | (simp; omega) | simp)).trans o120_
            have o136_ := (hb125_.cell (p := ⟨w45.heap.size, 1, none⟩) (by first | omega | (simp; omega) | simp)).trans o121_
            have z137_ := hb125_.size
            have B138_ := B123_.trans (hb125_.mono (by first | omega | (simp; omega) | simp))
            clear hb125_
            have h139_ : ((worthRow E xs).length : Int) = (2 ^ xs.length) := HWL.out
            have h139_b : (((worthRow E xs).length : Int) == (2 ^ xs.length)) = true := by simpa using h139_
            have h139_n : (((worthRow E xs).length : Int) != (2 ^ xs.length)) = false := by simpa using h139_
            have h139_le : ((worthRow E xs).length : Int) ≤ (2 ^ xs.length) := by omega
            have h139_ge : (2 ^ xs.length) ≤ ((worthRow E xs).length : Int) := by omega
            have Hh139_ := Lib.hid h139_
            clear h139_
            have h140_ : ((rightsRow E xs).length : Int) = (xs.length : Int) := by have e := HRL.out; omega
            have h140_b : (((rightsRow E xs).length : Int) == (xs.length : Int)) = true := by simpa using h140_
            have h140_n : (((rightsRow E xs).length : Int) != (xs.length : Int)) = false := by simpa using h140_
            have h140_le : ((rightsRow E xs).length : Int) ≤ (xs.length : Int) := by omega
            have h140_ge : (xs.length : Int) ≤ ((rightsRow E xs).length : Int) := by omega
            have Hh140_ := Lib.hid h140_
            clear h140_
            go_wp2
            go_ret
            exact ⟨ret_bool (by first | exact rfl | exact h140_b.trans rfl), B138_⟩

set_option maxRecDepth 10000 in
set_option maxHeartbeats 400000 in
theorem fnWorthRow_big (A0 : Option Addr) (c0 : Nat) (bs : List Int) (w : World) (hl : ¬ bs.length ≤ 1048576) (hm : bs.length ≤ 9223372036854775807) :
    Calls Try.prog 7 #[.slice A0 bs.length c0] w fun e w' => e = .returned (.bool true) ∧ Below w.heap.size w w' := by
  go_enter Try.func7, Try.ntmps7
  go_wp2
  go_ret
  exact ⟨rfl, Below.refl _ _⟩

theorem fnWorthRow_all (A0 : Option Addr) (c0 : Nat) (bs : List Int) (w : World) (h0 : Bytes w w.heap.size A0 bs) (hm : bs.length ≤ 9223372036854775807) (hc0 : bs.length ≤ c0) :
    Calls Try.prog 7 #[.slice A0 bs.length c0] w fun e w' => e = .returned (.bool true) ∧ Below w.heap.size w w' := by
  by_cases hl : bs.length ≤ 1048576
  · exact fnWorthRow_walk A0 c0 bs w h0 hl hc0
  · exact fnWorthRow_big A0 c0 bs w hl hm

end Go.Proofs.Ythhcjomfpjopdaa
