/-
  The law of RunwayOrders returns true for every code, and writes nothing that was there. No condition.
-/
import Derived.Test.YtbegdcnljafloaaGA
import Derived.Test.YtbegdcnljafloaaDraw10
import Derived.Test.YtbegdcnljafloaaRunL
import Derived.Test.YtbegdcnljafloaaGame10I
import Derived.Test.YtbegdcnljafloaaGC
import Derived.Test.YtbegdcnljafloaaRunM
import Derived.Test.YtbegdcnljafloaaFx
import Derived.Deep.RegionHeld3
namespace Go.Proofs.Ytbegdcnljafloaa
open Go.RowKit

set_option maxRecDepth 10000 in
set_option maxHeartbeats 2000000 in
theorem fnRunwayOrders_walk (A0 : Option Addr) (c0 : Nat) (bs : List Int) (w : World) (h0 : Bytes w w.heap.size A0 bs) (hl : bs.length ≤ 1048576) (hc0 : bs.length ≤ c0) :
    Calls Try.prog 7 #[.slice A0 bs.length c0] w fun e w' => e = .returned (.bool true) ∧ Below w.heap.size w w' := by
  have hlm : bs.length ≤ 9223372036854775807 := by omega
  go_enter Try.func7, Try.ntmps7
  have Htrue : Hid True := trivial
  have hc0u := hc0
  have h0u := h0
  have hlmu := hlm
  go_wp2_with fail
  refine (drawRunwayOrders_any A0 c0 bs _ (h0.more (by first | omega | (simp; omega) | simp)) hlm hc0).mono ?_
  rintro e w1 ⟨A3_, c4_, xs, hx8, rfl, ho5_, hb2_⟩
  have o6_ := h0.below hb2_ (by first | omega | (simp; omega) | simp)
  have z7_ := hb2_.size
  have B8_ := (Below.refl w.heap.size w).trans (hb2_.mono (by first | omega | (simp; omega) | simp))
  clear hb2_
  go_wp2_with fail
  refine (implRunwayOrders_any A3_ c4_ xs _ _ _ ho5_.ints (by first | omega | (simp; omega) | simp) (by omega)).mono ?_
  rintro e w9 ⟨A10_, c11_, rfl, ho12_, hb9_⟩
  have o13_ := o6_.below hb9_ (by first | omega | (simp; omega) | simp)
  have o14_ := ho5_.below hb9_ (by first | omega | (simp; omega) | simp)
  have z15_ := hb9_.size
  have B16_ := B8_.trans (hb9_.mono (by first | omega | (simp; omega) | simp))
  clear hb9_
  go_wp2_with fail
  refine (specRunwayOrders_any A3_ c4_ xs _ _ _ o14_.ints (by first | omega | (simp; omega) | simp) (by omega)).mono ?_
  rintro e w17 ⟨A18_, c19_, rfl, ho20_, hb17_⟩
  have o21_ := o13_.below hb17_ (by first | omega | (simp; omega) | simp)
  have o22_ := o14_.below hb17_ (by first | omega | (simp; omega) | simp)
  have o23_ := ho12_.below hb17_ (by first | omega | (simp; omega) | simp)
  have z24_ := hb17_.size
  have B25_ := B16_.trans (hb17_.mono (by first | omega | (simp; omega) | simp))
  clear hb17_
  go_wp2_with fail
  refine (sameInts_yes A10_ A18_ c11_ c19_ (sharesRow xs) (sharesRow xs) _ _ _ _ _ o23_.ints ho20_.ints (by have e := sharesRow_len4 xs; omega) rfl).mono ?_
  rintro e w26 ⟨rfl, hb26_⟩
  have o27_ := o21_.below hb26_ (by first | omega | (simp; omega) | simp)
  have o28_ := o22_.below hb26_ (by first | omega | (simp; omega) | simp)
  have o29_ := o23_.below hb26_ (by first | omega | (simp; omega) | simp)
  have o30_ := ho20_.below hb26_ (by first | omega | (simp; omega) | simp)
  have z31_ := hb26_.size
  have B32_ := B25_.trans (hb26_.mono (by first | omega | (simp; omega) | simp))
  clear hb26_
  by_cases h33_ : ((sharesRow xs).length : Int) = 0
  · have h33_b : (((sharesRow xs).length : Int) == 0) = true := by simpa using h33_
    have h33_n : (((sharesRow xs).length : Int) != 0) = false := by simpa using h33_
    have h33_le : ((sharesRow xs).length : Int) ≤ 0 := by omega
    have h33_ge : 0 ≤ ((sharesRow xs).length : Int) := by omega
    have Hh33_ := Lib.hid h33_
    clear h33_
    have H34_ : Hid (needB xs = false) := sharesRow_none (by omega)
    go_wp2_with fail
    refine (implNeedsOk_any A3_ c4_ xs _ _ _ o28_.ints (by first | omega | (simp; omega) | simp) (by omega)).mono ?_
    rintro e w35 ⟨he, hb35_⟩
    rw [H34_.out] at he
    subst he
    have o36_ := o27_.below hb35_ (by first | omega | (simp; omega) | simp)
    have o37_ := o28_.below hb35_ (by first | omega | (simp; omega) | simp)
    have o38_ := o29_.below hb35_ (by first | omega | (simp; omega) | simp)
    have o39_ := o30_.below hb35_ (by first | omega | (simp; omega) | simp)
    have z40_ := hb35_.size
    have B41_ := B32_.trans (hb35_.mono (by first | omega | (simp; omega) | simp))
    clear hb35_
    go_wp2_with fail
    refine (alive_any _).mono ?_
    rintro e w42 ⟨rfl, hb42_⟩
    have o43_ := o36_.below hb42_ (by first | omega | (simp; omega) | simp)
    have o44_ := o37_.below hb42_ (by first | omega | (simp; omega) | simp)
    have o45_ := o38_.below hb42_ (by first | omega | (simp; omega) | simp)
    have o46_ := o39_.below hb42_ (by first | omega | (simp; omega) | simp)
    have z47_ := hb42_.size
    have B48_ := B41_.trans (hb42_.mono (by first | omega | (simp; omega) | simp))
    clear hb42_
    go_wp2
    go_ret
    exact ⟨ret_bool (by first | exact rfl | exact h33_b.trans rfl), B48_⟩
  · have h33_b : (((sharesRow xs).length : Int) == 0) = false := by simpa using h33_
    have h33_n : (((sharesRow xs).length : Int) != 0) = true := by simpa using h33_
    have HNB : Hid (needB xs = true) := sharesRow_some (xs := xs) (by omega)
    have hbd := need_bd HNB.out
    obtain ⟨hx1, hx4⟩ := hbd
    obtain ⟨hp1, hp2⟩ := pow_bd hx4
    have HRW : Hid (sharesRow xs = shareR xs) := sharesRow_yes HNB.out
    have HLO : Hid ((sharesRow xs).length = xs.length) := by show _ = _; rw [HRW.out, shareR_length]
    have hlo1 : (sharesRow xs).length ≤ xs.length := by have e := HLO.out; omega
    have hlo2 : xs.length ≤ (sharesRow xs).length := by have e := HLO.out; omega
    have o34_ := o27_.below ((Below.refl _ _).alloc (Nat.le_refl _) (.cells #[] 3)) (by first | omega | (simp; omega) | simp)
    have o35_ := o28_.alloc (by first | omega | (simp; omega) | simp) (.cells #[] 3)
    have o36_ := o29_.alloc (by first | omega | (simp; omega) | simp) (.cells #[] 3)
    have o37_ := o30_.alloc (by first | omega | (simp; omega) | simp) (.cells #[] 3)
    have B38_ := B32_.alloc (by first | omega | (simp; omega) | simp) (.cells #[] 3)
    have G39_ : Grow (w26.alloc (.cells #[] 3)) (w26.heap.size) 0 ([] : List Int) := by have e := grow_lit w26 ([] : List Int) (by simp); (try simp only [hsz] at e); exact e
    have l40_ := G39_.lt
    have HL41_ : Hid (([] : List Int).length = 0) := rfl
    obtain ⟨b42_, f43_, rfl, b42_l, b42_h, -⟩ := o35_.ints (by omega)
    go_upto_region 10 with (first | ((at_builtin; (refine append_grL (by rfl) _ _ (by rfl) (xs := ([] : List Int)) (ys := xs) (by rfl) (by have e := HL41_.out; omega) G39_ (by rfl) (by rfl) (o35_.ints.read) (by omega) ?_; intro g44_ c45_ L50_ w46 HL50_ L50_l L50_u G46_ hC47_ hg48_)); (have o51_ := o34_.chg hC47_ (by first | omega | (simp; omega) | simp) (by omega)); (have o52_ := o35_.chg hC47_ (by first | omega | (simp; omega) | simp) (by omega)); (have o53_ := o36_.chg hC47_ (by first | omega | (simp; omega) | simp) (by omega)); (have o54_ := o37_.chg hC47_ (by first | omega | (simp; omega) | simp) (by omega)); (have z55_ := hC47_.size); (try simp at z55_); (have B56_ := B38_.trans (hC47_.below (by omega) (by first | omega | (simp; omega) | simp))); (clear hC47_); (have l57_ := G46_.lt); (have o58_ := o51_.below ((Below.refl _ _).alloc (Nat.le_refl _) (.cells #[.int .i64 0] 3)) (by first | omega | (simp; omega) | simp)); (have o59_ := o52_.alloc (by first | omega | (simp; omega) | simp) (.cells #[.int .i64 0] 3)); (have o60_ := o53_.alloc (by first | omega | (simp; omega) | simp) (.cells #[.int .i64 0] 3)); (have o61_ := o54_.alloc (by first | omega | (simp; omega) | simp) (.cells #[.int .i64 0] 3)); (have o62_ := G46_.alloc (.cells #[.int .i64 0] 3)); (have B63_ := B56_.alloc (by first | omega | (simp; omega) | simp) (.cells #[.int .i64 0] 3)); (have G64_ : Grow (w46.alloc (.cells #[.int .i64 0] 3)) (w46.heap.size) 1 ([0] : List Int) := by have e := grow_lit w46 ([0] : List Int) (by simp); (try simp only [hsz] at e); exact e); (have l65_ := G64_.lt); (have HL66_ : Hid (([0] : List Int).length = 1) := rfl)) | ((at_builtin; (refine append_grL (by rfl) _ _ (by rfl) (xs := (([] : List Int) ++ xs)) (ys := ([0] : List Int)) (by rfl) (by have e := HL50_.out; omega) o62_ (by rfl) (by have e := HL66_.out; omega) (G64_.ints.read) (by omega) ?_; intro g67_ c68_ L73_ w69 HL73_ L73_l L73_u G69_ hC70_ hg71_)); (have o74_ := o58_.chg hC70_ (by first | omega | (simp; omega) | simp) (by omega)); (have o75_ := o59_.chg hC70_ (by first | omega | (simp; omega) | simp) (by omega)); (have o76_ := o60_.chg hC70_ (by first | omega | (simp; omega) | simp) (by omega)); (have o77_ := o61_.chg hC70_ (by first | omega | (simp; omega) | simp) (by omega)); (have o78_ := G64_.chg hC70_ (by omega)); (have z79_ := hC70_.size); (try simp at z79_); (have B80_ := B63_.trans (hC70_.below (by omega) (by first | omega | (simp; omega) | simp))); (clear hC70_); (have l81_ := G69_.lt)))
    go_wp2_with fail
    rw [slice_n (A := (some ⟨g67_, 0, none⟩)) (n := L73_) (m := ((([] : List Int) ++ xs) ++ ([0] : List Int)).length) (c := c68_) (by have e := HL73_.out; first | omega | exact e.symm)]
    refine (implRunwayOrders_wide (n := ((([] : List Int) ++ xs) ++ ([0] : List Int)).length) (some ⟨g67_, 0, none⟩) c68_ xs rfl _ _ _ G69_.ints (by first | omega | (simp; omega) | simp) (by have e := HL73_.out; omega)).mono ?_
    rintro e w82 ⟨A83_, c84_, rfl, ho85_, hb82_⟩
    have o86_ := o74_.below hb82_ (by first | omega | (simp; omega) | simp)
    have o87_ := o75_.below hb82_ (by first | omega | (simp; omega) | simp)
    have o88_ := o76_.below hb82_ (by first | omega | (simp; omega) | simp)
    have o89_ := o77_.below hb82_ (by first | omega | (simp; omega) | simp)
    have o90_ := o78_.below hb82_ (by first | omega | (simp; omega) | simp)
    have o91_ := G69_.below hb82_ (by first | omega | (simp; omega) | simp)
    have z92_ := hb82_.size
    have B93_ := B80_.trans (hb82_.mono (by first | omega | (simp; omega) | simp))
    clear hb82_
    obtain ⟨v94_, hv94_⟩ : ∃ v, (sharesRow xs).sum = v := ⟨_, rfl⟩
    have Hv94_ := Lib.hid hv94_
    clear hv94_
    obtain ⟨v95_, hv95_⟩ : ∃ v, runCost xs ((2 ^ xs.length) - 1) = v := ⟨_, rfl⟩
    have bv95_ : -1 ≤ v95_ ∧ v95_ ≤ 12 := by rw [← hv95_]; exact runCost_rg _ _
    obtain ⟨bv95_1, bv95_2⟩ := bv95_
    have Hv95_ := Lib.hid hv95_
    clear hv95_
    have h96_ : v94_ = (48 * v95_) := by rw [← Hv94_.out, ← Hv95_.out]; exact runCost_all HNB.out
    have h96_b : (v94_ == (48 * v95_)) = true := by simpa using h96_
    have h96_n : (v94_ != (48 * v95_)) = false := by simpa using h96_
    have h96_le : v94_ ≤ (48 * v95_) := by omega
    have h96_ge : (48 * v95_) ≤ v94_ := by omega
    have Hh96_ := Lib.hid h96_
    clear h96_
    by_cases h97_ : (xs.length : Int) = 4
    · have h97_b : ((xs.length : Int) == 4) = true := by simpa using h97_
      have h97_n : ((xs.length : Int) != 4) = false := by simpa using h97_
      have h97_le : (xs.length : Int) ≤ 4 := by omega
      have h97_ge : 4 ≤ (xs.length : Int) := by omega
      have Hh97_ := Lib.hid h97_
      clear h97_
      have hw98_ : IntKind.i64.wrap (2 ^ xs.length) = (2 ^ xs.length) := IntWalk.i64_in _ (by omega)
      have hw99_ : IntKind.i64.wrap ((2 ^ xs.length) - 1) = ((2 ^ xs.length) - 1) := IntWalk.i64_in _ (by omega)
      have hw100_ : IntKind.i64.wrap (48 * v95_) = (48 * v95_) := IntWalk.i64_in _ (by omega)
      have g108_ : w.heap.size ≤ w82.heap.size := (by first | omega | (simp; omega) | simp)
      have g109_ : w1.heap.size ≤ w82.heap.size := (by first | omega | (simp; omega) | simp)
      have g110_ : w9.heap.size ≤ w82.heap.size := (by first | omega | (simp; omega) | simp)
      have g111_ : w17.heap.size ≤ w82.heap.size := (by first | omega | (simp; omega) | simp)
      have g112_ : w46.heap.size + 1 ≤ w82.heap.size := (by first | omega | (simp; omega) | simp)
      have g113_ : g67_ + 1 ≤ w82.heap.size := (by first | omega | (simp; omega) | simp)
      have g114_ : w82.heap.size ≤ w82.heap.size := (by first | omega | (simp; omega) | simp)
      have g115_ : w.heap.size ≤ w82.heap.size := (by first | omega | (simp; omega) | simp)
      go_wp2_with fail
      refine wp_region_held_drew (S := (fun w' : World => Below w.heap.size w w' ∧ w82.heap.size ≤ w'.heap.size ∧ Bytes w' (w.heap.size) A0 bs ∧ Own w' (w.heap.size) (w1.heap.size) (some ⟨b42_, f43_, none⟩) xs ∧ Own w' (w1.heap.size) (w9.heap.size) A10_ (sharesRow xs) ∧ Own w' (w9.heap.size) (w17.heap.size) A18_ (sharesRow xs) ∧ Grow w' w46.heap.size 1 ([0] : List Int) ∧ Grow w' g67_ c68_ ((([] : List Int) ++ xs) ++ ([0] : List Int)) ∧ Own w' (w69.heap.size) (w82.heap.size) A83_ (sharesRow (xs ++ [0])) ∧ w82.heap.size ≤ w'.heap.size)) (by kernel_rfl) ⟨B93_.drew, by exact (by first | omega | (simp; omega) | simp), o86_, o87_, o88_, o89_, o90_, o91_, ho85_, Nat.le_refl _⟩ (fun hHeld => ?_)
      refine wpAnyH_take (i := 0) (oi := ?oi1) (v := ?vv1) ?hi1 ?hs1 ?hf1 ?ha1 ?hq1 ?hy1 hHeld ?hr1
      case hi1 => (simp only [List.getElem?_toArray, List.getElem?_cons_zero]; exact rfl)
      case hs1 => kernel_rfl
      case hf1 => kernel_rfl
      case ha1 => kernel_rfl
      case hq1 => exact fun _ _ _ h => h
      case hy1 =>
        refine Or.inl ⟨by rfl, ?_⟩
        intro w' hSw
        try dsimp only at hSw
        go_simp
        first | done | with_reducible rfl
      simp only [Act.put, List.setIfInBounds_toArray, List.set_cons_succ, List.set_cons_zero]
      refine wpAnyH_take (i := 2) (oi := ?oi2) (v := ?vv2) ?hi2 ?hs2 ?hf2 ?ha2 ?hq2 ?hy2 hHeld ?hr2
      case hi2 => (simp only [List.getElem?_toArray, List.getElem?_cons_succ, List.getElem?_cons_zero]; exact rfl)
      case hs2 => kernel_rfl
      case hf2 => kernel_rfl
      case ha2 => kernel_rfl
      case hq2 => exact fun _ _ _ h => h
      case hy2 =>
        refine Or.inl ⟨by rfl, ?_⟩
        intro w' hSw
        try dsimp only at hSw
        go_simp
        first | done | with_reducible rfl
      simp only [Act.put, List.setIfInBounds_toArray, List.set_cons_succ, List.set_cons_zero]
      refine wpAnyH_take (i := 3) (oi := ?oi3) (v := ?vv3) ?hi3 ?hs3 ?hf3 ?ha3 ?hq3 ?hy3 hHeld ?hr3
      case hi3 => (simp only [List.getElem?_toArray, List.getElem?_cons_succ, List.getElem?_cons_zero]; exact rfl)
      case hs3 => kernel_rfl
      case hf3 => kernel_rfl
      case ha3 => kernel_rfl
      case hq3 => exact fun _ _ _ h => h
      case hy3 =>
        refine Or.inl ⟨by rfl, ?_⟩
        intro w' hSw
        try dsimp only at hSw
        go_simp
        first | done | with_reducible rfl
      simp only [Act.put, List.setIfInBounds_toArray, List.set_cons_succ, List.set_cons_zero]
      refine wpAnyH_take (i := 4) (oi := ?oi4) (v := ?vv4) ?hi4 ?hs4 ?hf4 ?ha4 ?hq4 ?hy4 hHeld ?hr4
      case hi4 => (simp only [List.getElem?_toArray, List.getElem?_cons_succ, List.getElem?_cons_zero]; exact rfl)
      case hs4 => kernel_rfl
      case hf4 => kernel_rfl
      case ha4 => kernel_rfl
      case hq4 => exact fun _ _ _ h => h
      case hy4 =>
        refine Or.inl ⟨by rfl, ?_⟩
        intro w' hSw
        try dsimp only at hSw
        go_simp
        first | done | with_reducible rfl
      simp only [Act.put, List.setIfInBounds_toArray, List.set_cons_succ, List.set_cons_zero]
      refine wpAnyH_take (i := 5) (oi := ?oi5) (v := ?vv5) ?hi5 ?hs5 ?hf5 ?ha5 ?hq5 ?hy5 hHeld ?hr5
      case hi5 => (simp only [List.getElem?_toArray, List.getElem?_cons_succ, List.getElem?_cons_zero]; exact rfl)
      case hs5 => kernel_rfl
      case hf5 => kernel_rfl
      case ha5 => kernel_rfl
      case hq5 => exact fun _ _ _ h => h
      case hy5 =>
        refine Or.inl ⟨by rfl, ?_⟩
        intro w' hSw
        try dsimp only at hSw
        go_simp
        first | done | with_reducible rfl
      simp only [Act.put, List.setIfInBounds_toArray, List.set_cons_succ, List.set_cons_zero]
      refine wpAnyH_take (i := 6) (oi := ?oi6) (v := ?vv6) ?hi6 ?hs6 ?hf6 ?ha6 ?hq6 ?hy6 hHeld ?hr6
      case hi6 => (simp only [List.getElem?_toArray, List.getElem?_cons_succ, List.getElem?_cons_zero]; exact rfl)
      case hs6 => kernel_rfl
      case hf6 => kernel_rfl
      case ha6 => kernel_rfl
      case hq6 => exact fun _ _ _ h => h
      case hy6 =>
        refine Or.inl ⟨by rfl, ?_⟩
        intro w' hSw
        try dsimp only at hSw
        go_simp
        first | done | with_reducible rfl
      simp only [Act.put, List.setIfInBounds_toArray, List.set_cons_succ, List.set_cons_zero]
      refine wpAnyH_ready (rs := [1]) (by kernel_rfl) (by simp) ?_
      refine AllReadyH.cons rfl (fun K hK => ?_) AllReadyH.nil
      go_simp
      go_at_call 31
      obtain ⟨BB, zz, k101_, k102_, k103_, k104_, k105_, k106_, k107_, zw⟩ := hHeld
      (with_reducible refine (same_is (lsumOf_any A10_ c11_ (sharesRow xs) _ _ _ k103_.ints shares_small) (congrArg (Value.int .i64) Hv94_.out)).mono ?_)
      rintro e w9 ⟨rfl, rfl⟩
      refine hK.out _ _ ⟨BB, zz, k101_, k102_, k103_, k104_, k105_, k106_, k107_, zw⟩ (fun hHeld => ?_)
      clear hK K
      try simp only [Act.put, List.setIfInBounds_toArray, List.set_cons_zero, List.set_cons_succ]
      refine wpAnyH_ready (rs := [7]) (by kernel_rfl) (by simp) ?_
      refine AllReadyH.cons rfl (fun K hK => ?_) AllReadyH.nil
      go_simp
      go_at_call 32
      obtain ⟨BB, zz, k101_, k102_, k103_, k104_, k105_, k106_, k107_, zw⟩ := hHeld
      (with_reducible refine (below_is (implRunwayCost_any (some ⟨b42_, f43_, none⟩) c4_ xs ((2 ^ xs.length) - 1) _ _ _ k102_.ints (by first | omega | (simp; omega) | simp) (by omega)) (congrArg (Value.int .i64) Hv95_.out)).mono ?_)
      rintro e w116 ⟨rfl, hb9⟩
      refine hK.out _ _ ⟨BB.trans (hb9.mono (by omega)), Nat.le_trans zz hb9.size, k101_.below hb9 (by first | omega | (simp; omega) | simp), k102_.below hb9 (by first | omega | (simp; omega) | simp), k103_.below hb9 (by first | omega | (simp; omega) | simp), k104_.below hb9 (by first | omega | (simp; omega) | simp), k105_.below hb9 (by first | omega | (simp; omega) | simp), k106_.below hb9 (by first | omega | (simp; omega) | simp), k107_.below hb9 (by first | omega | (simp; omega) | simp), Nat.le_trans zw hb9.size⟩ (fun hHeld => ?_)
      clear hb9 zw k107_ k106_ k105_ k104_ k103_ k102_ k101_ zz BB
      clear hK K
      try simp only [Act.put, List.setIfInBounds_toArray, List.set_cons_zero, List.set_cons_succ]
      refine wpAnyH_take (i := 8) (oi := ?oi7) (v := ?vv7) ?hi7 ?hs7 ?hf7 ?ha7 ?hq7 ?hy7 hHeld ?hr7
      case hi7 => (simp only [List.getElem?_toArray, List.getElem?_cons_succ, List.getElem?_cons_zero]; exact rfl)
      case hs7 => kernel_rfl
      case hf7 => kernel_rfl
      case ha7 => kernel_rfl
      case hq7 => exact fun _ _ _ h => h
      case hy7 =>
        refine Or.inl ⟨by rfl, ?_⟩
        intro w' hSw
        try dsimp only at hSw
        go_simp
        first | done | with_reducible rfl
      simp only [Act.put, List.setIfInBounds_toArray, List.set_cons_succ, List.set_cons_zero]
      refine wpAnyH_take (i := 9) (oi := ?oi8) (v := ?vv8) ?hi8 ?hs8 ?hf8 ?ha8 ?hq8 ?hy8 hHeld ?hr8
      case hi8 => (simp only [List.getElem?_toArray, List.getElem?_cons_succ, List.getElem?_cons_zero]; exact rfl)
      case hs8 => kernel_rfl
      case hf8 => kernel_rfl
      case ha8 => kernel_rfl
      case hq8 => exact fun _ _ _ h => h
      case hy8 =>
        refine Or.inl ⟨by rfl, ?_⟩
        intro w' hSw
        try dsimp only at hSw
        go_simp
        first | done | with_reducible rfl
      simp only [Act.put, List.setIfInBounds_toArray, List.set_cons_succ, List.set_cons_zero]
      refine wpAnyH_take (i := 10) (oi := ?oi9) (v := ?vv9) ?hi9 ?hs9 ?hf9 ?ha9 ?hq9 ?hy9 hHeld ?hr9
      case hi9 => (simp only [List.getElem?_toArray, List.getElem?_cons_succ, List.getElem?_cons_zero]; exact rfl)
      case hs9 => kernel_rfl
      case hf9 => kernel_rfl
      case ha9 => kernel_rfl
      case hq9 => exact fun _ _ _ h => h
      case hy9 =>
        refine Or.inl ⟨by rfl, ?_⟩
        intro w' hSw
        try dsimp only at hSw
        go_simp
        first | done | with_reducible rfl
      simp only [Act.put, List.setIfInBounds_toArray, List.set_cons_succ, List.set_cons_zero]
      refine wpAnyH_take (i := 11) (oi := ?oi10) (v := ?vv10) ?hi10 ?hs10 ?hf10 ?ha10 ?hq10 ?hy10 hHeld ?hr10
      case hi10 => (simp only [List.getElem?_toArray, List.getElem?_cons_succ, List.getElem?_cons_zero]; exact rfl)
      case hs10 => kernel_rfl
      case hf10 => kernel_rfl
      case ha10 => kernel_rfl
      case hq10 => exact fun _ _ _ h => h
      case hy10 =>
        refine Or.inl ⟨by rfl, ?_⟩
        intro w' hSw
        try dsimp only at hSw
        go_simp
        first | done | with_reducible rfl
      simp only [Act.put, List.setIfInBounds_toArray, List.set_cons_succ, List.set_cons_zero]
      refine wpAnyH_take (i := 12) (oi := ?oi11) (v := ?vv11) ?hi11 ?hs11 ?hf11 ?ha11 ?hq11 ?hy11 hHeld ?hr11
      case hi11 => (simp only [List.getElem?_toArray, List.getElem?_cons_succ, List.getElem?_cons_zero]; exact rfl)
      case hs11 => kernel_rfl
      case hf11 => kernel_rfl
      case ha11 => kernel_rfl
      case hq11 => exact fun _ _ _ h => h
      case hy11 =>
        refine Or.inl ⟨by rfl, ?_⟩
        intro w' hSw
        try dsimp only at hSw
        go_simp
        first | done | with_reducible rfl
      simp only [Act.put, List.setIfInBounds_toArray, List.set_cons_succ, List.set_cons_zero]
      refine wpAnyH_take (i := 13) (oi := ?oi12) (v := ?vv12) ?hi12 ?hs12 ?hf12 ?ha12 ?hq12 ?hy12 hHeld ?hr12
      case hi12 => (simp only [List.getElem?_toArray, List.getElem?_cons_succ, List.getElem?_cons_zero]; exact rfl)
      case hs12 => kernel_rfl
      case hf12 => kernel_rfl
      case ha12 => kernel_rfl
      case hq12 => exact fun _ _ _ h => h
      case hy12 =>
        refine Or.inl ⟨by rfl, ?_⟩
        intro w' hSw
        try dsimp only at hSw
        go_simp
        first | done | with_reducible rfl
      simp only [Act.put, List.setIfInBounds_toArray, List.set_cons_succ, List.set_cons_zero]
      refine wpAnyH_take (i := 14) (oi := ?oi13) (v := ?vv13) ?hi13 ?hs13 ?hf13 ?ha13 ?hq13 ?hy13 hHeld ?hr13
      case hi13 => (simp only [List.getElem?_toArray, List.getElem?_cons_succ, List.getElem?_cons_zero]; exact rfl)
      case hs13 => kernel_rfl
      case hf13 => kernel_rfl
      case ha13 => kernel_rfl
      case hq13 => exact fun _ _ _ h => h
      case hy13 =>
        refine Or.inl ⟨by rfl, ?_⟩
        intro w' hSw
        try dsimp only at hSw
        go_simp
        first | done | with_reducible rfl
      simp only [Act.put, List.setIfInBounds_toArray, List.set_cons_succ, List.set_cons_zero]
      refine wpAnyH_take (i := 15) (oi := ?oi14) (v := undef) ?hi14 ?hs14 ?hf14 ?ha14 ?hq14 ?hy14 hHeld ?hr14
      case hi14 => (simp only [List.getElem?_toArray, List.getElem?_cons_succ, List.getElem?_cons_zero]; exact rfl)
      case hs14 => kernel_rfl
      case hf14 => kernel_rfl
      case ha14 => kernel_rfl
      case hq14 => exact fun _ _ _ h => h
      case hy14 => exact Or.inr ⟨by rfl, rfl⟩
      simp only [Act.put, List.setIfInBounds_toArray, List.set_cons_succ, List.set_cons_zero]
      refine wpAnyH_take (i := 16) (oi := ?oi15) (v := undef) ?hi15 ?hs15 ?hf15 ?ha15 ?hq15 ?hy15 hHeld ?hr15
      case hi15 => (simp only [List.getElem?_toArray, List.getElem?_cons_succ, List.getElem?_cons_zero]; exact rfl)
      case hs15 => kernel_rfl
      case hf15 => kernel_rfl
      case ha15 => kernel_rfl
      case hq15 => exact fun _ _ _ h => h
      case hy15 => exact Or.inr ⟨by rfl, rfl⟩
      simp only [Act.put, List.setIfInBounds_toArray, List.set_cons_succ, List.set_cons_zero]
      refine wpAnyH_take (i := 17) (oi := ?oi16) (v := undef) ?hi16 ?hs16 ?hf16 ?ha16 ?hq16 ?hy16 hHeld ?hr16
      case hi16 => (simp only [List.getElem?_toArray, List.getElem?_cons_succ, List.getElem?_cons_zero]; exact rfl)
      case hs16 => kernel_rfl
      case hf16 => kernel_rfl
      case ha16 => kernel_rfl
      case hq16 => exact fun _ _ _ h => h
      case hy16 => exact Or.inr ⟨by rfl, rfl⟩
      simp only [Act.put, List.setIfInBounds_toArray, List.set_cons_succ, List.set_cons_zero]
      refine wpAnyH_take (i := 18) (oi := ?oi17) (v := undef) ?hi17 ?hs17 ?hf17 ?ha17 ?hq17 ?hy17 hHeld ?hr17
      case hi17 => (simp only [List.getElem?_toArray, List.getElem?_cons_succ, List.getElem?_cons_zero]; exact rfl)
      case hs17 => kernel_rfl
      case hf17 => kernel_rfl
      case ha17 => kernel_rfl
      case hq17 => exact fun _ _ _ h => h
      case hy17 => exact Or.inr ⟨by rfl, rfl⟩
      simp only [Act.put, List.setIfInBounds_toArray, List.set_cons_succ, List.set_cons_zero]
      refine wpAnyH_take (i := 19) (oi := ?oi18) (v := undef) ?hi18 ?hs18 ?hf18 ?ha18 ?hq18 ?hy18 hHeld ?hr18
      case hi18 => (simp only [List.getElem?_toArray, List.getElem?_cons_succ, List.getElem?_cons_zero]; exact rfl)
      case hs18 => kernel_rfl
      case hf18 => kernel_rfl
      case ha18 => kernel_rfl
      case hq18 => exact fun _ _ _ h => h
      case hy18 => exact Or.inr ⟨by rfl, rfl⟩
      simp only [Act.put, List.setIfInBounds_toArray, List.set_cons_succ, List.set_cons_zero]
      refine wpAnyH_take (i := 20) (oi := ?oi19) (v := undef) ?hi19 ?hs19 ?hf19 ?ha19 ?hq19 ?hy19 hHeld ?hr19
      case hi19 => (simp only [List.getElem?_toArray, List.getElem?_cons_succ, List.getElem?_cons_zero]; exact rfl)
      case hs19 => kernel_rfl
      case hf19 => kernel_rfl
      case ha19 => kernel_rfl
      case hq19 => exact fun _ _ _ h => h
      case hy19 => exact Or.inr ⟨by rfl, rfl⟩
      simp only [Act.put, List.setIfInBounds_toArray, List.set_cons_succ, List.set_cons_zero]
      refine wpAnyH_take (i := 21) (oi := ?oi20) (v := undef) ?hi20 ?hs20 ?hf20 ?ha20 ?hq20 ?hy20 hHeld ?hr20
      case hi20 => (simp only [List.getElem?_toArray, List.getElem?_cons_succ, List.getElem?_cons_zero]; exact rfl)
      case hs20 => kernel_rfl
      case hf20 => kernel_rfl
      case ha20 => kernel_rfl
      case hq20 => exact fun _ _ _ h => h
      case hy20 => exact Or.inr ⟨by rfl, rfl⟩
      simp only [Act.put, List.setIfInBounds_toArray, List.set_cons_succ, List.set_cons_zero]
      refine wpAnyH_take (i := 22) (oi := ?oi21) (v := ?vv21) ?hi21 ?hs21 ?hf21 ?ha21 ?hq21 ?hy21 hHeld ?hr21
      case hi21 => (simp only [List.getElem?_toArray, List.getElem?_cons_succ, List.getElem?_cons_zero]; exact rfl)
      case hs21 => kernel_rfl
      case hf21 => kernel_rfl
      case ha21 => kernel_rfl
      case hq21 => exact fun _ _ _ h => h
      case hy21 =>
        refine Or.inl ⟨by rfl, ?_⟩
        intro w' hSw
        try dsimp only at hSw
        go_simp
        first | done | with_reducible rfl
      simp only [Act.put, List.setIfInBounds_toArray, List.set_cons_succ, List.set_cons_zero]
      refine wpAnyH_take (i := 23) (oi := ?oi22) (v := ?vv22) ?hi22 ?hs22 ?hf22 ?ha22 ?hq22 ?hy22 hHeld ?hr22
      case hi22 => (simp only [List.getElem?_toArray, List.getElem?_cons_succ, List.getElem?_cons_zero]; exact rfl)
      case hs22 => kernel_rfl
      case hf22 => kernel_rfl
      case ha22 => kernel_rfl
      case hq22 => exact fun _ _ _ h => h
      case hy22 =>
        refine Or.inl ⟨by rfl, ?_⟩
        intro w' hSw
        try dsimp only at hSw
        go_simp
        first | done | with_reducible rfl
      simp only [Act.put, List.setIfInBounds_toArray, List.set_cons_succ, List.set_cons_zero]
      refine wpAnyH_take (i := 24) (oi := ?oi23) (v := ?vv23) ?hi23 ?hs23 ?hf23 ?ha23 ?hq23 ?hy23 hHeld ?hr23
      case hi23 => (simp only [List.getElem?_toArray, List.getElem?_cons_succ, List.getElem?_cons_zero]; exact rfl)
      case hs23 => kernel_rfl
      case hf23 => kernel_rfl
      case ha23 => kernel_rfl
      case hq23 => exact fun _ _ _ h => h
      case hy23 =>
        refine Or.inl ⟨by rfl, ?_⟩
        intro w' hSw
        try dsimp only at hSw
        go_simp
        first | done | with_reducible rfl
      simp only [Act.put, List.setIfInBounds_toArray, List.set_cons_succ, List.set_cons_zero]
      refine wpAnyH_done (by kernel_rfl) ?_ _
      obtain ⟨BB, zz, k101_, k102_, k103_, k104_, k105_, k106_, k107_, zw⟩ := hHeld
      clear hw98_ hw99_ hw100_
      have k117_ := BB
      clear BB
      have k118_ := zz
      clear zz
      have k119_ := zw
      clear zw
      go_wp2
      go_ret
      exact ⟨ret_bool (by first | exact rfl | exact h97_b.trans rfl), k117_⟩
    · have h97_b : ((xs.length : Int) == 4) = false := by simpa using h97_
      have h97_n : ((xs.length : Int) != 4) = true := by simpa using h97_
      have HL100_ : Hid (([] : List Int).length = 0) := rfl
      obtain ⟨b104_, f105_, rfl, b104_l, b104_h, -⟩ := o88_.ints (by omega)
      have HL106_ : Hid ((([] : List Int) ++ (sharesRow xs)).length = 0 + ((sharesRow xs).length)) := by show _ = _; rw [List.length_append, HL100_.out]; try omega
      have HL109_ : Hid (([0] : List Int).length = 1) := rfl
      have HL113_ : Hid (((([] : List Int) ++ (sharesRow xs)) ++ ([0] : List Int)).length = (sharesRow xs).length + 1) := by show _ = _; rw [List.length_append, HL106_.out, HL109_.out]; try omega
      have H114_ : Hid ((sharesRow (xs ++ [0])) = ((([] : List Int) ++ (sharesRow xs)) ++ ([0] : List Int))) := by show _ = _; simp only [List.nil_append]; exact shares_wide HNB.out (by omega)
      have hw115_ : IntKind.i64.wrap (2 ^ xs.length) = (2 ^ xs.length) := IntWalk.i64_in _ (by omega)
      have hw116_ : IntKind.i64.wrap ((2 ^ xs.length) - 1) = ((2 ^ xs.length) - 1) := IntWalk.i64_in _ (by omega)
      have hw117_ : IntKind.i64.wrap (48 * v95_) = (48 * v95_) := IntWalk.i64_in _ (by omega)
      have g125_ : w.heap.size ≤ w82.heap.size := (by first | omega | (simp; omega) | simp)
      have g126_ : w1.heap.size ≤ w82.heap.size := (by first | omega | (simp; omega) | simp)
      have g127_ : w9.heap.size ≤ w82.heap.size := (by first | omega | (simp; omega) | simp)
      have g128_ : w17.heap.size ≤ w82.heap.size := (by first | omega | (simp; omega) | simp)
      have g129_ : w46.heap.size + 1 ≤ w82.heap.size := (by first | omega | (simp; omega) | simp)
      have g130_ : g67_ + 1 ≤ w82.heap.size := (by first | omega | (simp; omega) | simp)
      have g131_ : w82.heap.size ≤ w82.heap.size := (by first | omega | (simp; omega) | simp)
      have g132_ : w.heap.size ≤ w82.heap.size := (by first | omega | (simp; omega) | simp)
      go_wp2_with fail
      refine wp_region_held_drew (S := (fun w' : World => Below w.heap.size w w' ∧ w82.heap.size ≤ w'.heap.size ∧ Bytes w' (w.heap.size) A0 bs ∧ Own w' (w.heap.size) (w1.heap.size) (some ⟨b42_, f43_, none⟩) xs ∧ Own w' (w1.heap.size) (w9.heap.size) (some ⟨b104_, f105_, none⟩) (sharesRow xs) ∧ Own w' (w9.heap.size) (w17.heap.size) A18_ (sharesRow xs) ∧ Grow w' w46.heap.size 1 ([0] : List Int) ∧ Grow w' g67_ c68_ ((([] : List Int) ++ xs) ++ ([0] : List Int)) ∧ Own w' (w69.heap.size) (w82.heap.size) A83_ (sharesRow (xs ++ [0])) ∧ w82.heap.size ≤ w'.heap.size)) (by kernel_rfl) ⟨B93_.drew, by exact (by first | omega | (simp; omega) | simp), o86_, o87_, o88_, o89_, o90_, o91_, ho85_, Nat.le_refl _⟩ (fun hHeld => ?_)
      refine wpAnyH_take (i := 0) (oi := ?oi24) (v := ?vv24) ?hi24 ?hs24 ?hf24 ?ha24 ?hq24 ?hy24 hHeld ?hr24
      case hi24 => (simp only [List.getElem?_toArray, List.getElem?_cons_zero]; exact rfl)
      case hs24 => kernel_rfl
      case hf24 => kernel_rfl
      case ha24 => kernel_rfl
      case hq24 => exact fun _ _ _ h => h
      case hy24 =>
        refine Or.inl ⟨by rfl, ?_⟩
        intro w' hSw
        try dsimp only at hSw
        go_simp
        first | done | with_reducible rfl
      simp only [Act.put, List.setIfInBounds_toArray, List.set_cons_succ, List.set_cons_zero]
      refine wpAnyH_take (i := 2) (oi := ?oi25) (v := ?vv25) ?hi25 ?hs25 ?hf25 ?ha25 ?hq25 ?hy25 hHeld ?hr25
      case hi25 => (simp only [List.getElem?_toArray, List.getElem?_cons_succ, List.getElem?_cons_zero]; exact rfl)
      case hs25 => kernel_rfl
      case hf25 => kernel_rfl
      case ha25 => kernel_rfl
      case hq25 => exact fun _ _ _ h => h
      case hy25 =>
        refine Or.inl ⟨by rfl, ?_⟩
        intro w' hSw
        try dsimp only at hSw
        go_simp
        first | done | with_reducible rfl
      simp only [Act.put, List.setIfInBounds_toArray, List.set_cons_succ, List.set_cons_zero]
      refine wpAnyH_take (i := 3) (oi := ?oi26) (v := ?vv26) ?hi26 ?hs26 ?hf26 ?ha26 ?hq26 ?hy26 hHeld ?hr26
      case hi26 => (simp only [List.getElem?_toArray, List.getElem?_cons_succ, List.getElem?_cons_zero]; exact rfl)
      case hs26 => kernel_rfl
      case hf26 => kernel_rfl
      case ha26 => kernel_rfl
      case hq26 => exact fun _ _ _ h => h
      case hy26 =>
        refine Or.inl ⟨by rfl, ?_⟩
        intro w' hSw
        try dsimp only at hSw
        go_simp
        first | done | with_reducible rfl
      simp only [Act.put, List.setIfInBounds_toArray, List.set_cons_succ, List.set_cons_zero]
      refine wpAnyH_take (i := 4) (oi := ?oi27) (v := ?vv27) ?hi27 ?hs27 ?hf27 ?ha27 ?hq27 ?hy27 hHeld ?hr27
      case hi27 => (simp only [List.getElem?_toArray, List.getElem?_cons_succ, List.getElem?_cons_zero]; exact rfl)
      case hs27 => kernel_rfl
      case hf27 => kernel_rfl
      case ha27 => kernel_rfl
      case hq27 => exact fun _ _ _ h => h
      case hy27 =>
        refine Or.inl ⟨by rfl, ?_⟩
        intro w' hSw
        try dsimp only at hSw
        go_simp
        first | done | with_reducible rfl
      simp only [Act.put, List.setIfInBounds_toArray, List.set_cons_succ, List.set_cons_zero]
      refine wpAnyH_take (i := 5) (oi := ?oi28) (v := ?vv28) ?hi28 ?hs28 ?hf28 ?ha28 ?hq28 ?hy28 hHeld ?hr28
      case hi28 => (simp only [List.getElem?_toArray, List.getElem?_cons_succ, List.getElem?_cons_zero]; exact rfl)
      case hs28 => kernel_rfl
      case hf28 => kernel_rfl
      case ha28 => kernel_rfl
      case hq28 => exact fun _ _ _ h => h
      case hy28 =>
        refine Or.inl ⟨by rfl, ?_⟩
        intro w' hSw
        try dsimp only at hSw
        go_simp
        first | done | with_reducible rfl
      simp only [Act.put, List.setIfInBounds_toArray, List.set_cons_succ, List.set_cons_zero]
      refine wpAnyH_take (i := 6) (oi := ?oi29) (v := ?vv29) ?hi29 ?hs29 ?hf29 ?ha29 ?hq29 ?hy29 hHeld ?hr29
      case hi29 => (simp only [List.getElem?_toArray, List.getElem?_cons_succ, List.getElem?_cons_zero]; exact rfl)
      case hs29 => kernel_rfl
      case hf29 => kernel_rfl
      case ha29 => kernel_rfl
      case hq29 => exact fun _ _ _ h => h
      case hy29 =>
        refine Or.inl ⟨by rfl, ?_⟩
        intro w' hSw
        try dsimp only at hSw
        go_simp
        first | done | with_reducible rfl
      simp only [Act.put, List.setIfInBounds_toArray, List.set_cons_succ, List.set_cons_zero]
      refine wpAnyH_ready (rs := [1]) (by kernel_rfl) (by simp) ?_
      refine AllReadyH.cons rfl (fun K hK => ?_) AllReadyH.nil
      go_simp
      go_at_call 31
      obtain ⟨BB, zz, k118_, k119_, k120_, k121_, k122_, k123_, k124_, zw⟩ := hHeld
      (with_reducible refine (same_is (lsumOf_any (some ⟨b104_, f105_, none⟩) c11_ (sharesRow xs) _ _ _ k120_.ints shares_small) (congrArg (Value.int .i64) Hv94_.out)).mono ?_)
      rintro e w9 ⟨rfl, rfl⟩
      refine hK.out _ _ ⟨BB, zz, k118_, k119_, k120_, k121_, k122_, k123_, k124_, zw⟩ (fun hHeld => ?_)
      clear hK K
      try simp only [Act.put, List.setIfInBounds_toArray, List.set_cons_zero, List.set_cons_succ]
      refine wpAnyH_ready (rs := [7]) (by kernel_rfl) (by simp) ?_
      refine AllReadyH.cons rfl (fun K hK => ?_) AllReadyH.nil
      go_simp
      go_at_call 32
      obtain ⟨BB, zz, k118_, k119_, k120_, k121_, k122_, k123_, k124_, zw⟩ := hHeld
      (with_reducible refine (below_is (implRunwayCost_any (some ⟨b42_, f43_, none⟩) c4_ xs ((2 ^ xs.length) - 1) _ _ _ k119_.ints (by first | omega | (simp; omega) | simp) (by omega)) (congrArg (Value.int .i64) Hv95_.out)).mono ?_)
      rintro e w133 ⟨rfl, hb9⟩
      refine hK.out _ _ ⟨BB.trans (hb9.mono (by omega)), Nat.le_trans zz hb9.size, k118_.below hb9 (by first | omega | (simp; omega) | simp), k119_.below hb9 (by first | omega | (simp; omega) | simp), k120_.below hb9 (by first | omega | (simp; omega) | simp), k121_.below hb9 (by first | omega | (simp; omega) | simp), k122_.below hb9 (by first | omega | (simp; omega) | simp), k123_.below hb9 (by first | omega | (simp; omega) | simp), k124_.below hb9 (by first | omega | (simp; omega) | simp), Nat.le_trans zw hb9.size⟩ (fun hHeld => ?_)
      clear hb9 zw k124_ k123_ k122_ k121_ k120_ k119_ k118_ zz BB
      clear hK K
      try simp only [Act.put, List.setIfInBounds_toArray, List.set_cons_zero, List.set_cons_succ]
      refine wpAnyH_take (i := 8) (oi := ?oi30) (v := ?vv30) ?hi30 ?hs30 ?hf30 ?ha30 ?hq30 ?hy30 hHeld ?hr30
      case hi30 => (simp only [List.getElem?_toArray, List.getElem?_cons_succ, List.getElem?_cons_zero]; exact rfl)
      case hs30 => kernel_rfl
      case hf30 => kernel_rfl
      case ha30 => kernel_rfl
      case hq30 => exact fun _ _ _ h => h
      case hy30 =>
        refine Or.inl ⟨by rfl, ?_⟩
        intro w' hSw
        try dsimp only at hSw
        go_simp
        first | done | with_reducible rfl
      simp only [Act.put, List.setIfInBounds_toArray, List.set_cons_succ, List.set_cons_zero]
      refine wpAnyH_take (i := 9) (oi := ?oi31) (v := ?vv31) ?hi31 ?hs31 ?hf31 ?ha31 ?hq31 ?hy31 hHeld ?hr31
      case hi31 => (simp only [List.getElem?_toArray, List.getElem?_cons_succ, List.getElem?_cons_zero]; exact rfl)
      case hs31 => kernel_rfl
      case hf31 => kernel_rfl
      case ha31 => kernel_rfl
      case hq31 => exact fun _ _ _ h => h
      case hy31 =>
        refine Or.inl ⟨by rfl, ?_⟩
        intro w' hSw
        try dsimp only at hSw
        go_simp
        first | done | with_reducible rfl
      simp only [Act.put, List.setIfInBounds_toArray, List.set_cons_succ, List.set_cons_zero]
      refine wpAnyH_take (i := 10) (oi := ?oi32) (v := ?vv32) ?hi32 ?hs32 ?hf32 ?ha32 ?hq32 ?hy32 hHeld ?hr32
      case hi32 => (simp only [List.getElem?_toArray, List.getElem?_cons_succ, List.getElem?_cons_zero]; exact rfl)
      case hs32 => kernel_rfl
      case hf32 => kernel_rfl
      case ha32 => kernel_rfl
      case hq32 => exact fun _ _ _ h => h
      case hy32 =>
        refine Or.inl ⟨by rfl, ?_⟩
        intro w' hSw
        try dsimp only at hSw
        go_simp
        first | done | with_reducible rfl
      simp only [Act.put, List.setIfInBounds_toArray, List.set_cons_succ, List.set_cons_zero]
      refine wpAnyH_take (i := 11) (oi := ?oi33) (v := ?vv33) ?hi33 ?hs33 ?hf33 ?ha33 ?hq33 ?hy33 hHeld ?hr33
      case hi33 => (simp only [List.getElem?_toArray, List.getElem?_cons_succ, List.getElem?_cons_zero]; exact rfl)
      case hs33 => kernel_rfl
      case hf33 => kernel_rfl
      case ha33 => kernel_rfl
      case hq33 => exact fun _ _ _ h => h
      case hy33 =>
        refine Or.inl ⟨by rfl, ?_⟩
        intro w' hSw
        try dsimp only at hSw
        go_simp
        first | done | with_reducible rfl
      simp only [Act.put, List.setIfInBounds_toArray, List.set_cons_succ, List.set_cons_zero]
      refine wpAnyH_take (i := 12) (oi := ?oi34) (v := ?vv34) ?hi34 ?hs34 ?hf34 ?ha34 ?hq34 ?hy34 hHeld ?hr34
      case hi34 => (simp only [List.getElem?_toArray, List.getElem?_cons_succ, List.getElem?_cons_zero]; exact rfl)
      case hs34 => kernel_rfl
      case hf34 => kernel_rfl
      case ha34 => kernel_rfl
      case hq34 => exact fun _ _ _ h => h
      case hy34 =>
        refine Or.inl ⟨by rfl, ?_⟩
        intro w' hSw
        try dsimp only at hSw
        go_simp
        first | done | with_reducible rfl
      simp only [Act.put, List.setIfInBounds_toArray, List.set_cons_succ, List.set_cons_zero]
      refine wpAnyH_take (i := 13) (oi := ?oi35) (v := ?vv35) ?hi35 ?hs35 ?hf35 ?ha35 ?hq35 ?hy35 hHeld ?hr35
      case hi35 => (simp only [List.getElem?_toArray, List.getElem?_cons_succ, List.getElem?_cons_zero]; exact rfl)
      case hs35 => kernel_rfl
      case hf35 => kernel_rfl
      case ha35 => kernel_rfl
      case hq35 => exact fun _ _ _ h => h
      case hy35 =>
        refine Or.inl ⟨by rfl, ?_⟩
        intro w' hSw
        try dsimp only at hSw
        go_simp
        first | done | with_reducible rfl
      simp only [Act.put, List.setIfInBounds_toArray, List.set_cons_succ, List.set_cons_zero]
      refine wpAnyH_take (i := 14) (oi := ?oi36) (v := ?vv36) ?hi36 ?hs36 ?hf36 ?ha36 ?hq36 ?hy36 hHeld ?hr36
      case hi36 => (simp only [List.getElem?_toArray, List.getElem?_cons_succ, List.getElem?_cons_zero]; exact rfl)
      case hs36 => kernel_rfl
      case hf36 => kernel_rfl
      case ha36 => kernel_rfl
      case hq36 => exact fun _ _ _ h => h
      case hy36 =>
        refine Or.inl ⟨by rfl, ?_⟩
        intro w' hSw
        try dsimp only at hSw
        go_simp
        first | done | with_reducible rfl
      simp only [Act.put, List.setIfInBounds_toArray, List.set_cons_succ, List.set_cons_zero]
      refine wpAnyH_take (i := 15) (oi := ?oi37) (v := ?vv37) ?hi37 ?hs37 ?hf37 ?ha37 ?hq37 ?hy37 hHeld ?hr37
      case hi37 => (simp only [List.getElem?_toArray, List.getElem?_cons_succ, List.getElem?_cons_zero]; exact rfl)
      case hs37 => kernel_rfl
      case hf37 => kernel_rfl
      case ha37 => kernel_rfl
      case hq37 => exact fun _ _ _ h => h
      case hy37 =>
        refine Or.inl ⟨by rfl, ?_⟩
        intro w' hSw
        try dsimp only at hSw
        go_simp
        first | done | with_reducible rfl
      simp only [Act.put, List.setIfInBounds_toArray, List.set_cons_succ, List.set_cons_zero]
      refine wpAnyH_take (i := 17) (oi := ?oi38) (v := ?vv38) ?hi38 ?hs38 ?hf38 ?ha38 ?hq38 ?hy38 hHeld ?hr38
      case hi38 => (simp only [List.getElem?_toArray, List.getElem?_cons_succ, List.getElem?_cons_zero]; exact rfl)
      case hs38 => kernel_rfl
      case hf38 => kernel_rfl
      case ha38 => kernel_rfl
      case hq38 => exact fun _ _ _ h => h
      case hy38 =>
        refine Or.inl ⟨by rfl, ?_⟩
        intro w' hSw
        try dsimp only at hSw
        go_simp
        first | done | with_reducible rfl
      simp only [Act.put, List.setIfInBounds_toArray, List.set_cons_succ, List.set_cons_zero]
      refine wpAnyH_ready (rs := [16, 19]) (by kernel_rfl) (by simp) ?_
      refine AllReadyH.cons rfl (fun K hK => ?_) (AllReadyH.cons rfl (fun K hK => ?_) AllReadyH.nil)
      · obtain ⟨BB, zz, k118_, k119_, k120_, k121_, k122_, k123_, k124_, zw⟩ := hHeld
        go_simp
        have G99_ : Grow (w133.alloc (.cells #[] 3)) (w133.heap.size) 0 ([] : List Int) := grow_lit w133 ([] : List Int) (by simp)
        have hb9 : Below w133.heap.size w133 (w133.alloc (.cells #[] 3)) := (Below.refl _ w133).alloc (Nat.le_refl _) (.cells #[] 3)
        obtain ⟨g98_, hg98_⟩ : ∃ g, w133.heap.size = g := ⟨_, rfl⟩
        rw [hg98_] at G99_
        simp only [hg98_]
        have lg98_ : w.heap.size ≤ g98_ := by omega
        have lWg98_ : w82.heap.size ≤ g98_ := by omega
        have leg98_ : g98_ ≤ w133.heap.size := by omega
        have geg98_ : w133.heap.size ≤ g98_ := by omega
        obtain ⟨w134, hw134⟩ : ∃ x, x = (w133.alloc (.cells #[] 3)) := ⟨_, rfl⟩
        rw [← hw134] at G99_ hb9
        rw [← hw134]
        clear hw134 hg98_
        have l135_ := G99_.lt
        refine hK.out _ _ ⟨BB.trans (hb9.mono (by omega)), Nat.le_trans zz hb9.size, k118_.below hb9 (by first | omega | (simp; omega) | simp), k119_.below hb9 (by first | omega | (simp; omega) | simp), k120_.below hb9 (by first | omega | (simp; omega) | simp), k121_.below hb9 (by first | omega | (simp; omega) | simp), k122_.below hb9 (by first | omega | (simp; omega) | simp), k123_.below hb9 (by first | omega | (simp; omega) | simp), k124_.below hb9 (by first | omega | (simp; omega) | simp), Nat.le_trans zw hb9.size⟩ (fun hHeld => ?_)
        clear hb9 zw k124_ k123_ k122_ k121_ k120_ k119_ k118_ zz BB
        clear hK K
        try simp only [Act.put, List.setIfInBounds_toArray, List.set_cons_zero, List.set_cons_succ]
        refine wpAnyH_ready (rs := [18, 19]) (by kernel_rfl) (by simp) ?_
        refine AllReadyH.cons (o := ?ox2000) ?hx2000 (fun K hK => ?_) (AllReadyH.cons rfl (fun K hK => ?_) AllReadyH.nil)
        case hx2000 => (simp only [List.getElem?_toArray, List.getElem?_cons_succ, List.getElem?_cons_zero]; exact rfl)
        · obtain ⟨BB, zz, k118_, k119_, k120_, k121_, k122_, k123_, k124_, zw⟩ := hHeld
          refine step_grW (by rfl) _ _ (by rfl) (xs := ([] : List Int)) (ys := (sharesRow xs)) (by rfl) (by have e := HL100_.out; omega) G99_ (by rfl) (by rfl) (k120_.ints.read) (by omega) ?_
          intro g101_ c102_ w136 G103_ hC137_ hg101_
          have lg101_ : w.heap.size ≤ g101_ := by omega
          have lSg101_ : g101_ = g98_ ∨ w82.heap.size ≤ g101_ := by omega
          have l138_ := G103_.lt
          have l139_ := hC137_.size
          refine hK.out _ _ ⟨BB.trans (hC137_.below (by omega) (by omega)), Nat.le_trans zz hC137_.size, k118_.chg hC137_ (by first | omega | (simp; omega) | simp) (by omega), k119_.chg hC137_ (by first | omega | (simp; omega) | simp) (by omega), k120_.chg hC137_ (by first | omega | (simp; omega) | simp) (by omega), k121_.chg hC137_ (by first | omega | (simp; omega) | simp) (by omega), k122_.chg hC137_ (by omega), k123_.chg hC137_ (by omega), k124_.chg hC137_ (by first | omega | (simp; omega) | simp) (by omega), Nat.le_trans zw hC137_.size⟩ (fun hHeld => ?_)
          clear hC137_ zw k124_ k123_ k122_ k121_ k120_ k119_ k118_ zz BB
          clear hK K
          try simp only [Act.put, List.setIfInBounds_toArray, List.set_cons_zero, List.set_cons_succ]
          refine wpAnyH_ready (rs := [19]) (by kernel_rfl) (by simp) ?_
          refine AllReadyH.cons rfl (fun K hK => ?_) AllReadyH.nil
          obtain ⟨BB, zz, k118_, k119_, k120_, k121_, k122_, k123_, k124_, zw⟩ := hHeld
          go_simp
          have G108_ : Grow (w136.alloc (.cells #[.int .i64 0] 3)) (w136.heap.size) 1 ([0] : List Int) := grow_lit w136 ([0] : List Int) (by simp)
          have hb9 : Below w136.heap.size w136 (w136.alloc (.cells #[.int .i64 0] 3)) := (Below.refl _ w136).alloc (Nat.le_refl _) (.cells #[.int .i64 0] 3)
          obtain ⟨g107_, hg107_⟩ : ∃ g, w136.heap.size = g := ⟨_, rfl⟩
          rw [hg107_] at G108_
          simp only [hg107_]
          have lg107_ : w.heap.size ≤ g107_ := by omega
          have lWg107_ : w82.heap.size ≤ g107_ := by omega
          have leg107_ : g107_ ≤ w136.heap.size := by omega
          have geg107_ : w136.heap.size ≤ g107_ := by omega
          obtain ⟨w140, hw140⟩ : ∃ x, x = (w136.alloc (.cells #[.int .i64 0] 3)) := ⟨_, rfl⟩
          rw [← hw140] at G108_ hb9
          rw [← hw140]
          clear hw140 hg107_
          have l141_ := G108_.lt
          have G103_ := G103_.below hb9 (by first | omega | (simp; omega) | simp)
          refine hK.out _ _ ⟨BB.trans (hb9.mono (by omega)), Nat.le_trans zz hb9.size, k118_.below hb9 (by first | omega | (simp; omega) | simp), k119_.below hb9 (by first | omega | (simp; omega) | simp), k120_.below hb9 (by first | omega | (simp; omega) | simp), k121_.below hb9 (by first | omega | (simp; omega) | simp), k122_.below hb9 (by first | omega | (simp; omega) | simp), k123_.below hb9 (by first | omega | (simp; omega) | simp), k124_.below hb9 (by first | omega | (simp; omega) | simp), Nat.le_trans zw hb9.size⟩ (fun hHeld => ?_)
          clear hb9 zw k124_ k123_ k122_ k121_ k120_ k119_ k118_ zz BB
          clear hK K
          try simp only [Act.put, List.setIfInBounds_toArray, List.set_cons_zero, List.set_cons_succ]
          refine wpAnyH_ready (rs := [20]) (by kernel_rfl) (by simp) ?_
          refine AllReadyH.cons (o := ?ox3002) ?hx3002 (fun K hK => ?_) AllReadyH.nil
          case hx3002 => (simp only [List.getElem?_toArray, List.getElem?_cons_succ, List.getElem?_cons_zero]; exact rfl)
          obtain ⟨BB, zz, k118_, k119_, k120_, k121_, k122_, k123_, k124_, zw⟩ := hHeld
          refine step_grW (by rfl) _ _ (by rfl) (xs := (([] : List Int) ++ (sharesRow xs))) (ys := ([0] : List Int)) (by rfl) (by have e := HL106_.out; omega) G103_ (by rfl) (by have e := HL109_.out; omega) (G108_.ints.read) (by omega) ?_
          intro g110_ c111_ w142 G112_ hC143_ hg110_
          have lg110_ : w.heap.size ≤ g110_ := by omega
          have lSg110_ : g110_ = g101_ ∨ w82.heap.size ≤ g110_ := by omega
          have l144_ := G112_.lt
          have l145_ := hC143_.size
          have G108_ := G108_.chg hC143_ (by omega)
          refine hK.out _ _ ⟨BB.trans (hC143_.below (by omega) (by omega)), Nat.le_trans zz hC143_.size, k118_.chg hC143_ (by first | omega | (simp; omega) | simp) (by omega), k119_.chg hC143_ (by first | omega | (simp; omega) | simp) (by omega), k120_.chg hC143_ (by first | omega | (simp; omega) | simp) (by omega), k121_.chg hC143_ (by first | omega | (simp; omega) | simp) (by omega), k122_.chg hC143_ (by omega), k123_.chg hC143_ (by omega), k124_.chg hC143_ (by first | omega | (simp; omega) | simp) (by omega), Nat.le_trans zw hC143_.size⟩ (fun hHeld => ?_)
          clear hC143_ zw k124_ k123_ k122_ k121_ k120_ k119_ k118_ zz BB
          clear hK K
          try simp only [Act.put, List.setIfInBounds_toArray, List.set_cons_zero, List.set_cons_succ]
          refine wpAnyH_ready (rs := [21]) (by kernel_rfl) (by simp) ?_
          refine AllReadyH.cons rfl (fun K hK => ?_) AllReadyH.nil
          go_simp
          go_at_call 24
          rw [slice_n (A := (some ⟨g110_, 0, none⟩)) (n := ((sharesRow xs).length + 1)) (m := ((([] : List Int) ++ (sharesRow xs)) ++ ([0] : List Int)).length) (c := c111_) (by have e := HL113_.out; first | omega | exact e.symm)]
          obtain ⟨BB, zz, k118_, k119_, k120_, k121_, k122_, k123_, k124_, zw⟩ := hHeld
          (with_reducible refine (sameInts_yes A83_ (some ⟨g110_, 0, none⟩) c84_ c111_ (sharesRow (xs ++ [0])) ((([] : List Int) ++ (sharesRow xs)) ++ ([0] : List Int)) _ _ _ _ _ k124_.ints G112_.ints (by have e := sharesRow_len4 (xs ++ [0]); omega) H114_.out).mono ?_)
          rintro e w146 ⟨rfl, hb9⟩
          have G108_ := G108_.below hb9 (by first | omega | (simp; omega) | simp)
          have G112_ := G112_.below hb9 (by first | omega | (simp; omega) | simp)
          refine hK.out _ _ ⟨BB.trans (hb9.mono (by omega)), Nat.le_trans zz hb9.size, k118_.below hb9 (by first | omega | (simp; omega) | simp), k119_.below hb9 (by first | omega | (simp; omega) | simp), k120_.below hb9 (by first | omega | (simp; omega) | simp), k121_.below hb9 (by first | omega | (simp; omega) | simp), k122_.below hb9 (by first | omega | (simp; omega) | simp), k123_.below hb9 (by first | omega | (simp; omega) | simp), k124_.below hb9 (by first | omega | (simp; omega) | simp), Nat.le_trans zw hb9.size⟩ (fun hHeld => ?_)
          clear hb9 zw k124_ k123_ k122_ k121_ k120_ k119_ k118_ zz BB
          clear hK K
          try simp only [Act.put, List.setIfInBounds_toArray, List.set_cons_zero, List.set_cons_succ]
          refine wpAnyH_take (i := 22) (oi := ?oi3003) (v := ?vv3003) ?hi3003 ?hs3003 ?hf3003 ?ha3003 ?hq3003 ?hy3003 hHeld ?hr3003
          case hi3003 => (simp only [List.getElem?_toArray, List.getElem?_cons_succ, List.getElem?_cons_zero]; exact rfl)
          case hs3003 => kernel_rfl
          case hf3003 => kernel_rfl
          case ha3003 => kernel_rfl
          case hq3003 => exact fun _ _ _ h => h
          case hy3003 =>
            refine Or.inl ⟨by rfl, ?_⟩
            intro w' hSw
            try dsimp only at hSw
            go_simp
            first | done | with_reducible rfl
          simp only [Act.put, List.setIfInBounds_toArray, List.set_cons_succ, List.set_cons_zero]
          refine wpAnyH_take (i := 23) (oi := ?oi3004) (v := ?vv3004) ?hi3004 ?hs3004 ?hf3004 ?ha3004 ?hq3004 ?hy3004 hHeld ?hr3004
          case hi3004 => (simp only [List.getElem?_toArray, List.getElem?_cons_succ, List.getElem?_cons_zero]; exact rfl)
          case hs3004 => kernel_rfl
          case hf3004 => kernel_rfl
          case ha3004 => kernel_rfl
          case hq3004 => exact fun _ _ _ h => h
          case hy3004 =>
            refine Or.inl ⟨by rfl, ?_⟩
            intro w' hSw
            try dsimp only at hSw
            go_simp
            first | done | with_reducible rfl
          simp only [Act.put, List.setIfInBounds_toArray, List.set_cons_succ, List.set_cons_zero]
          refine wpAnyH_take (i := 24) (oi := ?oi3005) (v := ?vv3005) ?hi3005 ?hs3005 ?hf3005 ?ha3005 ?hq3005 ?hy3005 hHeld ?hr3005
          case hi3005 => (simp only [List.getElem?_toArray, List.getElem?_cons_succ, List.getElem?_cons_zero]; exact rfl)
          case hs3005 => kernel_rfl
          case hf3005 => kernel_rfl
          case ha3005 => kernel_rfl
          case hq3005 => exact fun _ _ _ h => h
          case hy3005 =>
            refine Or.inl ⟨by rfl, ?_⟩
            intro w' hSw
            try dsimp only at hSw
            go_simp
            first | done | with_reducible rfl
          simp only [Act.put, List.setIfInBounds_toArray, List.set_cons_succ, List.set_cons_zero]
          refine wpAnyH_done (by kernel_rfl) ?_ _
          obtain ⟨BB, zz, k118_, k119_, k120_, k121_, k122_, k123_, k124_, zw⟩ := hHeld
          clear hw115_ hw116_ hw117_
          have k147_ := BB
          clear BB
          have k148_ := zz
          clear zz
          have k149_ := zw
          clear zw
          go_wp2
          go_ret
          exact ⟨ret_bool (by first | exact rfl | exact h97_b.trans rfl), k147_⟩
        · obtain ⟨BB, zz, k118_, k119_, k120_, k121_, k122_, k123_, k124_, zw⟩ := hHeld
          go_simp
          have G108_ : Grow (w134.alloc (.cells #[.int .i64 0] 3)) (w134.heap.size) 1 ([0] : List Int) := grow_lit w134 ([0] : List Int) (by simp)
          have hb9 : Below w134.heap.size w134 (w134.alloc (.cells #[.int .i64 0] 3)) := (Below.refl _ w134).alloc (Nat.le_refl _) (.cells #[.int .i64 0] 3)
          obtain ⟨g107_, hg107_⟩ : ∃ g, w134.heap.size = g := ⟨_, rfl⟩
          rw [hg107_] at G108_
          simp only [hg107_]
          have lg107_ : w.heap.size ≤ g107_ := by omega
          have lWg107_ : w82.heap.size ≤ g107_ := by omega
          have leg107_ : g107_ ≤ w134.heap.size := by omega
          have geg107_ : w134.heap.size ≤ g107_ := by omega
          obtain ⟨w136, hw136⟩ : ∃ x, x = (w134.alloc (.cells #[.int .i64 0] 3)) := ⟨_, rfl⟩
          rw [← hw136] at G108_ hb9
          rw [← hw136]
          clear hw136 hg107_
          have l137_ := G108_.lt
          have G99_ := G99_.below hb9 (by first | omega | (simp; omega) | simp)
          refine hK.out _ _ ⟨BB.trans (hb9.mono (by omega)), Nat.le_trans zz hb9.size, k118_.below hb9 (by first | omega | (simp; omega) | simp), k119_.below hb9 (by first | omega | (simp; omega) | simp), k120_.below hb9 (by first | omega | (simp; omega) | simp), k121_.below hb9 (by first | omega | (simp; omega) | simp), k122_.below hb9 (by first | omega | (simp; omega) | simp), k123_.below hb9 (by first | omega | (simp; omega) | simp), k124_.below hb9 (by first | omega | (simp; omega) | simp), Nat.le_trans zw hb9.size⟩ (fun hHeld => ?_)
          clear hb9 zw k124_ k123_ k122_ k121_ k120_ k119_ k118_ zz BB
          clear hK K
          try simp only [Act.put, List.setIfInBounds_toArray, List.set_cons_zero, List.set_cons_succ]
          refine wpAnyH_ready (rs := [18]) (by kernel_rfl) (by simp) ?_
          refine AllReadyH.cons (o := ?ox4001) ?hx4001 (fun K hK => ?_) AllReadyH.nil
          case hx4001 => (simp only [List.getElem?_toArray, List.getElem?_cons_succ, List.getElem?_cons_zero]; exact rfl)
          obtain ⟨BB, zz, k118_, k119_, k120_, k121_, k122_, k123_, k124_, zw⟩ := hHeld
          refine step_grW (by rfl) _ _ (by rfl) (xs := ([] : List Int)) (ys := (sharesRow xs)) (by rfl) (by have e := HL100_.out; omega) G99_ (by rfl) (by rfl) (k120_.ints.read) (by omega) ?_
          intro g101_ c102_ w138 G103_ hC139_ hg101_
          have lg101_ : w.heap.size ≤ g101_ := by omega
          have lSg101_ : g101_ = g98_ ∨ w82.heap.size ≤ g101_ := by omega
          have l140_ := G103_.lt
          have l141_ := hC139_.size
          have G108_ := G108_.chg hC139_ (by omega)
          refine hK.out _ _ ⟨BB.trans (hC139_.below (by omega) (by omega)), Nat.le_trans zz hC139_.size, k118_.chg hC139_ (by first | omega | (simp; omega) | simp) (by omega), k119_.chg hC139_ (by first | omega | (simp; omega) | simp) (by omega), k120_.chg hC139_ (by first | omega | (simp; omega) | simp) (by omega), k121_.chg hC139_ (by first | omega | (simp; omega) | simp) (by omega), k122_.chg hC139_ (by omega), k123_.chg hC139_ (by omega), k124_.chg hC139_ (by first | omega | (simp; omega) | simp) (by omega), Nat.le_trans zw hC139_.size⟩ (fun hHeld => ?_)
          clear hC139_ zw k124_ k123_ k122_ k121_ k120_ k119_ k118_ zz BB
          clear hK K
          try simp only [Act.put, List.setIfInBounds_toArray, List.set_cons_zero, List.set_cons_succ]
          refine wpAnyH_ready (rs := [20]) (by kernel_rfl) (by simp) ?_
          refine AllReadyH.cons (o := ?ox4002) ?hx4002 (fun K hK => ?_) AllReadyH.nil
          case hx4002 => (simp only [List.getElem?_toArray, List.getElem?_cons_succ, List.getElem?_cons_zero]; exact rfl)
          obtain ⟨BB, zz, k118_, k119_, k120_, k121_, k122_, k123_, k124_, zw⟩ := hHeld
          refine step_grW (by rfl) _ _ (by rfl) (xs := (([] : List Int) ++ (sharesRow xs))) (ys := ([0] : List Int)) (by rfl) (by have e := HL106_.out; omega) G103_ (by rfl) (by have e := HL109_.out; omega) (G108_.ints.read) (by omega) ?_
          intro g110_ c111_ w142 G112_ hC143_ hg110_
          have lg110_ : w.heap.size ≤ g110_ := by omega
          have lSg110_ : g110_ = g101_ ∨ w82.heap.size ≤ g110_ := by omega
          have l144_ := G112_.lt
          have l145_ := hC143_.size
          have G108_ := G108_.chg hC143_ (by omega)
          refine hK.out _ _ ⟨BB.trans (hC143_.below (by omega) (by omega)), Nat.le_trans zz hC143_.size, k118_.chg hC143_ (by first | omega | (simp; omega) | simp) (by omega), k119_.chg hC143_ (by first | omega | (simp; omega) | simp) (by omega), k120_.chg hC143_ (by first | omega | (simp; omega) | simp) (by omega), k121_.chg hC143_ (by first | omega | (simp; omega) | simp) (by omega), k122_.chg hC143_ (by omega), k123_.chg hC143_ (by omega), k124_.chg hC143_ (by first | omega | (simp; omega) | simp) (by omega), Nat.le_trans zw hC143_.size⟩ (fun hHeld => ?_)
          clear hC143_ zw k124_ k123_ k122_ k121_ k120_ k119_ k118_ zz BB
          clear hK K
          try simp only [Act.put, List.setIfInBounds_toArray, List.set_cons_zero, List.set_cons_succ]
          refine wpAnyH_ready (rs := [21]) (by kernel_rfl) (by simp) ?_
          refine AllReadyH.cons rfl (fun K hK => ?_) AllReadyH.nil
          go_simp
          go_at_call 24
          rw [slice_n (A := (some ⟨g110_, 0, none⟩)) (n := ((sharesRow xs).length + 1)) (m := ((([] : List Int) ++ (sharesRow xs)) ++ ([0] : List Int)).length) (c := c111_) (by have e := HL113_.out; first | omega | exact e.symm)]
          obtain ⟨BB, zz, k118_, k119_, k120_, k121_, k122_, k123_, k124_, zw⟩ := hHeld
          (with_reducible refine (sameInts_yes A83_ (some ⟨g110_, 0, none⟩) c84_ c111_ (sharesRow (xs ++ [0])) ((([] : List Int) ++ (sharesRow xs)) ++ ([0] : List Int)) _ _ _ _ _ k124_.ints G112_.ints (by have e := sharesRow_len4 (xs ++ [0]); omega) H114_.out).mono ?_)
          rintro e w146 ⟨rfl, hb9⟩
          have G108_ := G108_.below hb9 (by first | omega | (simp; omega) | simp)
          have G112_ := G112_.below hb9 (by first | omega | (simp; omega) | simp)
          refine hK.out _ _ ⟨BB.trans (hb9.mono (by omega)), Nat.le_trans zz hb9.size, k118_.below hb9 (by first | omega | (simp; omega) | simp), k119_.below hb9 (by first | omega | (simp; omega) | simp), k120_.below hb9 (by first | omega | (simp; omega) | simp), k121_.below hb9 (by first | omega | (simp; omega) | simp), k122_.below hb9 (by first | omega | (simp; omega) | simp), k123_.below hb9 (by first | omega | (simp; omega) | simp), k124_.below hb9 (by first | omega | (simp; omega) | simp), Nat.le_trans zw hb9.size⟩ (fun hHeld => ?_)
          clear hb9 zw k124_ k123_ k122_ k121_ k120_ k119_ k118_ zz BB
          clear hK K
          try simp only [Act.put, List.setIfInBounds_toArray, List.set_cons_zero, List.set_cons_succ]
          refine wpAnyH_take (i := 22) (oi := ?oi4003) (v := ?vv4003) ?hi4003 ?hs4003 ?hf4003 ?ha4003 ?hq4003 ?hy4003 hHeld ?hr4003
          case hi4003 => (simp only [List.getElem?_toArray, List.getElem?_cons_succ, List.getElem?_cons_zero]; exact rfl)
          case hs4003 => kernel_rfl
          case hf4003 => kernel_rfl
          case ha4003 => kernel_rfl
          case hq4003 => exact fun _ _ _ h => h
          case hy4003 =>
            refine Or.inl ⟨by rfl, ?_⟩
            intro w' hSw
            try dsimp only at hSw
            go_simp
            first | done | with_reducible rfl
          simp only [Act.put, List.setIfInBounds_toArray, List.set_cons_succ, List.set_cons_zero]
          refine wpAnyH_take (i := 23) (oi := ?oi4004) (v := ?vv4004) ?hi4004 ?hs4004 ?hf4004 ?ha4004 ?hq4004 ?hy4004 hHeld ?hr4004
          case hi4004 => (simp only [List.getElem?_toArray, List.getElem?_cons_succ, List.getElem?_cons_zero]; exact rfl)
          case hs4004 => kernel_rfl
          case hf4004 => kernel_rfl
          case ha4004 => kernel_rfl
          case hq4004 => exact fun _ _ _ h => h
          case hy4004 =>
            refine Or.inl ⟨by rfl, ?_⟩
            intro w' hSw
            try dsimp only at hSw
            go_simp
            first | done | with_reducible rfl
          simp only [Act.put, List.setIfInBounds_toArray, List.set_cons_succ, List.set_cons_zero]
          refine wpAnyH_take (i := 24) (oi := ?oi4005) (v := ?vv4005) ?hi4005 ?hs4005 ?hf4005 ?ha4005 ?hq4005 ?hy4005 hHeld ?hr4005
          case hi4005 => (simp only [List.getElem?_toArray, List.getElem?_cons_succ, List.getElem?_cons_zero]; exact rfl)
          case hs4005 => kernel_rfl
          case hf4005 => kernel_rfl
          case ha4005 => kernel_rfl
          case hq4005 => exact fun _ _ _ h => h
          case hy4005 =>
            refine Or.inl ⟨by rfl, ?_⟩
            intro w' hSw
            try dsimp only at hSw
            go_simp
            first | done | with_reducible rfl
          simp only [Act.put, List.setIfInBounds_toArray, List.set_cons_succ, List.set_cons_zero]
          refine wpAnyH_done (by kernel_rfl) ?_ _
          obtain ⟨BB, zz, k118_, k119_, k120_, k121_, k122_, k123_, k124_, zw⟩ := hHeld
          clear hw115_ hw116_ hw117_
          have k147_ := BB
          clear BB
          have k148_ := zz
          clear zz
          have k149_ := zw
          clear zw
          go_wp2
          go_ret
          exact ⟨ret_bool (by first | exact rfl | exact h97_b.trans rfl), k147_⟩
      · obtain ⟨BB, zz, k118_, k119_, k120_, k121_, k122_, k123_, k124_, zw⟩ := hHeld
        go_simp
        have G108_ : Grow (w133.alloc (.cells #[.int .i64 0] 3)) (w133.heap.size) 1 ([0] : List Int) := grow_lit w133 ([0] : List Int) (by simp)
        have hb9 : Below w133.heap.size w133 (w133.alloc (.cells #[.int .i64 0] 3)) := (Below.refl _ w133).alloc (Nat.le_refl _) (.cells #[.int .i64 0] 3)
        obtain ⟨g107_, hg107_⟩ : ∃ g, w133.heap.size = g := ⟨_, rfl⟩
        rw [hg107_] at G108_
        simp only [hg107_]
        have lg107_ : w.heap.size ≤ g107_ := by omega
        have lWg107_ : w82.heap.size ≤ g107_ := by omega
        have leg107_ : g107_ ≤ w133.heap.size := by omega
        have geg107_ : w133.heap.size ≤ g107_ := by omega
        obtain ⟨w134, hw134⟩ : ∃ x, x = (w133.alloc (.cells #[.int .i64 0] 3)) := ⟨_, rfl⟩
        rw [← hw134] at G108_ hb9
        rw [← hw134]
        clear hw134 hg107_
        have l135_ := G108_.lt
        refine hK.out _ _ ⟨BB.trans (hb9.mono (by omega)), Nat.le_trans zz hb9.size, k118_.below hb9 (by first | omega | (simp; omega) | simp), k119_.below hb9 (by first | omega | (simp; omega) | simp), k120_.below hb9 (by first | omega | (simp; omega) | simp), k121_.below hb9 (by first | omega | (simp; omega) | simp), k122_.below hb9 (by first | omega | (simp; omega) | simp), k123_.below hb9 (by first | omega | (simp; omega) | simp), k124_.below hb9 (by first | omega | (simp; omega) | simp), Nat.le_trans zw hb9.size⟩ (fun hHeld => ?_)
        clear hb9 zw k124_ k123_ k122_ k121_ k120_ k119_ k118_ zz BB
        clear hK K
        try simp only [Act.put, List.setIfInBounds_toArray, List.set_cons_zero, List.set_cons_succ]
        refine wpAnyH_ready (rs := [16]) (by kernel_rfl) (by simp) ?_
        refine AllReadyH.cons rfl (fun K hK => ?_) AllReadyH.nil
        obtain ⟨BB, zz, k118_, k119_, k120_, k121_, k122_, k123_, k124_, zw⟩ := hHeld
        go_simp
        have G99_ : Grow (w134.alloc (.cells #[] 3)) (w134.heap.size) 0 ([] : List Int) := grow_lit w134 ([] : List Int) (by simp)
        have hb9 : Below w134.heap.size w134 (w134.alloc (.cells #[] 3)) := (Below.refl _ w134).alloc (Nat.le_refl _) (.cells #[] 3)
        obtain ⟨g98_, hg98_⟩ : ∃ g, w134.heap.size = g := ⟨_, rfl⟩
        rw [hg98_] at G99_
        simp only [hg98_]
        have lg98_ : w.heap.size ≤ g98_ := by omega
        have lWg98_ : w82.heap.size ≤ g98_ := by omega
        have leg98_ : g98_ ≤ w134.heap.size := by omega
        have geg98_ : w134.heap.size ≤ g98_ := by omega
        obtain ⟨w136, hw136⟩ : ∃ x, x = (w134.alloc (.cells #[] 3)) := ⟨_, rfl⟩
        rw [← hw136] at G99_ hb9
        rw [← hw136]
        clear hw136 hg98_
        have l137_ := G99_.lt
        have G108_ := G108_.below hb9 (by first | omega | (simp; omega) | simp)
        refine hK.out _ _ ⟨BB.trans (hb9.mono (by omega)), Nat.le_trans zz hb9.size, k118_.below hb9 (by first | omega | (simp; omega) | simp), k119_.below hb9 (by first | omega | (simp; omega) | simp), k120_.below hb9 (by first | omega | (simp; omega) | simp), k121_.below hb9 (by first | omega | (simp; omega) | simp), k122_.below hb9 (by first | omega | (simp; omega) | simp), k123_.below hb9 (by first | omega | (simp; omega) | simp), k124_.below hb9 (by first | omega | (simp; omega) | simp), Nat.le_trans zw hb9.size⟩ (fun hHeld => ?_)
        clear hb9 zw k124_ k123_ k122_ k121_ k120_ k119_ k118_ zz BB
        clear hK K
        try simp only [Act.put, List.setIfInBounds_toArray, List.set_cons_zero, List.set_cons_succ]
        refine wpAnyH_ready (rs := [18]) (by kernel_rfl) (by simp) ?_
        refine AllReadyH.cons (o := ?ox5001) ?hx5001 (fun K hK => ?_) AllReadyH.nil
        case hx5001 => (simp only [List.getElem?_toArray, List.getElem?_cons_succ, List.getElem?_cons_zero]; exact rfl)
        obtain ⟨BB, zz, k118_, k119_, k120_, k121_, k122_, k123_, k124_, zw⟩ := hHeld
        refine step_grW (by rfl) _ _ (by rfl) (xs := ([] : List Int)) (ys := (sharesRow xs)) (by rfl) (by have e := HL100_.out; omega) G99_ (by rfl) (by rfl) (k120_.ints.read) (by omega) ?_
        intro g101_ c102_ w138 G103_ hC139_ hg101_
        have lg101_ : w.heap.size ≤ g101_ := by omega
        have lSg101_ : g101_ = g98_ ∨ w82.heap.size ≤ g101_ := by omega
        have l140_ := G103_.lt
        have l141_ := hC139_.size
        have G108_ := G108_.chg hC139_ (by omega)
        refine hK.out _ _ ⟨BB.trans (hC139_.below (by omega) (by omega)), Nat.le_trans zz hC139_.size, k118_.chg hC139_ (by first | omega | (simp; omega) | simp) (by omega), k119_.chg hC139_ (by first | omega | (simp; omega) | simp) (by omega), k120_.chg hC139_ (by first | omega | (simp; omega) | simp) (by omega), k121_.chg hC139_ (by first | omega | (simp; omega) | simp) (by omega), k122_.chg hC139_ (by omega), k123_.chg hC139_ (by omega), k124_.chg hC139_ (by first | omega | (simp; omega) | simp) (by omega), Nat.le_trans zw hC139_.size⟩ (fun hHeld => ?_)
        clear hC139_ zw k124_ k123_ k122_ k121_ k120_ k119_ k118_ zz BB
        clear hK K
        try simp only [Act.put, List.setIfInBounds_toArray, List.set_cons_zero, List.set_cons_succ]
        refine wpAnyH_ready (rs := [20]) (by kernel_rfl) (by simp) ?_
        refine AllReadyH.cons (o := ?ox5002) ?hx5002 (fun K hK => ?_) AllReadyH.nil
        case hx5002 => (simp only [List.getElem?_toArray, List.getElem?_cons_succ, List.getElem?_cons_zero]; exact rfl)
        obtain ⟨BB, zz, k118_, k119_, k120_, k121_, k122_, k123_, k124_, zw⟩ := hHeld
        refine step_grW (by rfl) _ _ (by rfl) (xs := (([] : List Int) ++ (sharesRow xs))) (ys := ([0] : List Int)) (by rfl) (by have e := HL106_.out; omega) G103_ (by rfl) (by have e := HL109_.out; omega) (G108_.ints.read) (by omega) ?_
        intro g110_ c111_ w142 G112_ hC143_ hg110_
        have lg110_ : w.heap.size ≤ g110_ := by omega
        have lSg110_ : g110_ = g101_ ∨ w82.heap.size ≤ g110_ := by omega
        have l144_ := G112_.lt
        have l145_ := hC143_.size
        have G108_ := G108_.chg hC143_ (by omega)
        refine hK.out _ _ ⟨BB.trans (hC143_.below (by omega) (by omega)), Nat.le_trans zz hC143_.size, k118_.chg hC143_ (by first | omega | (simp; omega) | simp) (by omega), k119_.chg hC143_ (by first | omega | (simp; omega) | simp) (by omega), k120_.chg hC143_ (by first | omega | (simp; omega) | simp) (by omega), k121_.chg hC143_ (by first | omega | (simp; omega) | simp) (by omega), k122_.chg hC143_ (by omega), k123_.chg hC143_ (by omega), k124_.chg hC143_ (by first | omega | (simp; omega) | simp) (by omega), Nat.le_trans zw hC143_.size⟩ (fun hHeld => ?_)
        clear hC143_ zw k124_ k123_ k122_ k121_ k120_ k119_ k118_ zz BB
        clear hK K
        try simp only [Act.put, List.setIfInBounds_toArray, List.set_cons_zero, List.set_cons_succ]
        refine wpAnyH_ready (rs := [21]) (by kernel_rfl) (by simp) ?_
        refine AllReadyH.cons rfl (fun K hK => ?_) AllReadyH.nil
        go_simp
        go_at_call 24
        rw [slice_n (A := (some ⟨g110_, 0, none⟩)) (n := ((sharesRow xs).length + 1)) (m := ((([] : List Int) ++ (sharesRow xs)) ++ ([0] : List Int)).length) (c := c111_) (by have e := HL113_.out; first | omega | exact e.symm)]
        obtain ⟨BB, zz, k118_, k119_, k120_, k121_, k122_, k123_, k124_, zw⟩ := hHeld
        (with_reducible refine (sameInts_yes A83_ (some ⟨g110_, 0, none⟩) c84_ c111_ (sharesRow (xs ++ [0])) ((([] : List Int) ++ (sharesRow xs)) ++ ([0] : List Int)) _ _ _ _ _ k124_.ints G112_.ints (by have e := sharesRow_len4 (xs ++ [0]); omega) H114_.out).mono ?_)
        rintro e w146 ⟨rfl, hb9⟩
        have G108_ := G108_.below hb9 (by first | omega | (simp; omega) | simp)
        have G112_ := G112_.below hb9 (by first | omega | (simp; omega) | simp)
        refine hK.out _ _ ⟨BB.trans (hb9.mono (by omega)), Nat.le_trans zz hb9.size, k118_.below hb9 (by first | omega | (simp; omega) | simp), k119_.below hb9 (by first | omega | (simp; omega) | simp), k120_.below hb9 (by first | omega | (simp; omega) | simp), k121_.below hb9 (by first | omega | (simp; omega) | simp), k122_.below hb9 (by first | omega | (simp; omega) | simp), k123_.below hb9 (by first | omega | (simp; omega) | simp), k124_.below hb9 (by first | omega | (simp; omega) | simp), Nat.le_trans zw hb9.size⟩ (fun hHeld => ?_)
        clear hb9 zw k124_ k123_ k122_ k121_ k120_ k119_ k118_ zz BB
        clear hK K
        try simp only [Act.put, List.setIfInBounds_toArray, List.set_cons_zero, List.set_cons_succ]
        refine wpAnyH_take (i := 22) (oi := ?oi5003) (v := ?vv5003) ?hi5003 ?hs5003 ?hf5003 ?ha5003 ?hq5003 ?hy5003 hHeld ?hr5003
        case hi5003 => (simp only [List.getElem?_toArray, List.getElem?_cons_succ, List.getElem?_cons_zero]; exact rfl)
        case hs5003 => kernel_rfl
        case hf5003 => kernel_rfl
        case ha5003 => kernel_rfl
        case hq5003 => exact fun _ _ _ h => h
        case hy5003 =>
          refine Or.inl ⟨by rfl, ?_⟩
          intro w' hSw
          try dsimp only at hSw
          go_simp
          first | done | with_reducible rfl
        simp only [Act.put, List.setIfInBounds_toArray, List.set_cons_succ, List.set_cons_zero]
        refine wpAnyH_take (i := 23) (oi := ?oi5004) (v := ?vv5004) ?hi5004 ?hs5004 ?hf5004 ?ha5004 ?hq5004 ?hy5004 hHeld ?hr5004
        case hi5004 => (simp only [List.getElem?_toArray, List.getElem?_cons_succ, List.getElem?_cons_zero]; exact rfl)
        case hs5004 => kernel_rfl
        case hf5004 => kernel_rfl
        case ha5004 => kernel_rfl
        case hq5004 => exact fun _ _ _ h => h
        case hy5004 =>
          refine Or.inl ⟨by rfl, ?_⟩
          intro w' hSw
          try dsimp only at hSw
          go_simp
          first | done | with_reducible rfl
        simp only [Act.put, List.setIfInBounds_toArray, List.set_cons_succ, List.set_cons_zero]
        refine wpAnyH_take (i := 24) (oi := ?oi5005) (v := ?vv5005) ?hi5005 ?hs5005 ?hf5005 ?ha5005 ?hq5005 ?hy5005 hHeld ?hr5005
        case hi5005 => (simp only [List.getElem?_toArray, List.getElem?_cons_succ, List.getElem?_cons_zero]; exact rfl)
        case hs5005 => kernel_rfl
        case hf5005 => kernel_rfl
        case ha5005 => kernel_rfl
        case hq5005 => exact fun _ _ _ h => h
        case hy5005 =>
          refine Or.inl ⟨by rfl, ?_⟩
          intro w' hSw
          try dsimp only at hSw
          go_simp
          first | done | with_reducible rfl
        simp only [Act.put, List.setIfInBounds_toArray, List.set_cons_succ, List.set_cons_zero]
        refine wpAnyH_done (by kernel_rfl) ?_ _
        obtain ⟨BB, zz, k118_, k119_, k120_, k121_, k122_, k123_, k124_, zw⟩ := hHeld
        clear hw115_ hw116_ hw117_
        have k147_ := BB
        clear BB
        have k148_ := zz
        clear zz
        have k149_ := zw
        clear zw
        go_wp2
        go_ret
        exact ⟨ret_bool (by first | exact rfl | exact h97_b.trans rfl), k147_⟩

set_option maxRecDepth 10000 in
set_option maxHeartbeats 400000 in
theorem fnRunwayOrders_big (A0 : Option Addr) (c0 : Nat) (bs : List Int) (w : World) (hl : ¬ bs.length ≤ 1048576) (hm : bs.length ≤ 9223372036854775807) :
    Calls Try.prog 7 #[.slice A0 bs.length c0] w fun e w' => e = .returned (.bool true) ∧ Below w.heap.size w w' := by
  go_enter Try.func7, Try.ntmps7
  go_wp2
  go_ret
  exact ⟨rfl, Below.refl _ _⟩

theorem fnRunwayOrders_all (A0 : Option Addr) (c0 : Nat) (bs : List Int) (w : World) (h0 : Bytes w w.heap.size A0 bs) (hm : bs.length ≤ 9223372036854775807) (hc0 : bs.length ≤ c0) :
    Calls Try.prog 7 #[.slice A0 bs.length c0] w fun e w' => e = .returned (.bool true) ∧ Below w.heap.size w w' := by
  by_cases hl : bs.length ≤ 1048576
  · exact fnRunwayOrders_walk A0 c0 bs w h0 hl hc0
  · exact fnRunwayOrders_big A0 c0 bs w hl hm

end Go.Proofs.Ytbegdcnljafloaa
