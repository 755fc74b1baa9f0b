/-
  Chapter 10, the given package's functions: NeedsOk, RunwayCost, RunwayShares, RunwayOrders, PaysOk. Premises: lengths that fit.
-/
import Derived.Test.YtbegdcnljafloaaRun
import Derived.Test.YtbegdcnljafloaaSpec6
import Derived.Test.YtbegdcnljafloaaSpec7C
import Derived.BigQuiet
import Derived.Deep.Cut
namespace Go.Proofs.Ytbegdcnljafloaa
open Go.RowKit

/-- The first k numbers are needs. -/
def NeedTo (xs : List Int) (k : Nat) : Prop := ∀ j, j < k → 0 ≤ xs.getD j 0 ∧ xs.getD j 0 ≤ 12
theorem NeedTo.zero (xs : List Int) : NeedTo xs 0 := fun _ h => absurd h (by omega)
theorem NeedTo.more {xs : List Int} {k : Nat} (h : NeedTo xs k) (e : 0 ≤ xs.getD k 0 ∧ xs.getD k 0 ≤ 12) : NeedTo xs (k + 1) := fun j hj => by
  rcases Nat.lt_or_ge j k with q | q
  · exact h j q
  · obtain rfl : j = k := by omega
    exact e
theorem need_yes {xs : List Int} (h : NeedTo xs xs.length) (h1 : 1 ≤ xs.length) (h4 : xs.length ≤ 4) : needB xs = true := (needB_iff xs).2 ⟨h1, h4, fun x hx => by
  obtain ⟨j, hj, rfl⟩ := List.mem_iff_getElem.1 hx
  have e := h j hj
  rwa [getD_of_lt xs j hj] at e⟩
theorem need_no {xs : List Int} (h : ¬ needB xs = true) : needB xs = false := by simpa using h

set_option maxRecDepth 10000 in
set_option maxHeartbeats 400000 in
theorem specNeedsOk_any (A : Option Addr) (c : Nat) (xs : List Int) (w : World) (lo hi : Nat) (h : Ints w lo hi A xs) (hl : xs.length ≤ 1152921504606846976) :
    Calls Try.prog 57 #[.slice A xs.length c] w fun e w' => e = .returned (.bool (needB xs)) ∧ w = w' := by
  go_enter Try.func57, Try.ntmps57
  go_wp2
  go_loop [3] (fun i => ∃ k : Nat, i = .int .i64 k ∧ (k ≤ xs.length) ∧ (NeedTo xs k)) (fun i => xs.length - (intOf i).toNat)
  case atStart => exact ⟨0, rfl, Nat.zero_le _, NeedTo.zero xs⟩
  case round =>
    obtain ⟨k, rfl, hk, hnt⟩ := hrel
    have HNT := Lib.hid hnt
    clear hnt
    by_cases hlt0 : k < xs.length
    · obtain ⟨b1_, f2_, rfl, _, b1_h, -⟩ := h (by omega)
      have c3_ : w.cell? ⟨b1_, f2_ + k, none⟩ = some (.int .i64 (xs.getD k 0)) := h.at2 k (by first | omega | (simp; omega) | simp)
      have c3_i : (k : Int) < (xs.length : Int) := by omega
      have c3_j : (0 : Int) ≤ (k : Int) := by omega
      obtain ⟨v4_, hv4_⟩ : ∃ v, v = xs.getD k 0 := ⟨_, rfl⟩
      rw [← hv4_] at c3_
      have Hv4_ := Lib.hid hv4_
      clear hv4_
      by_cases h5_ : 0 ≤ v4_ ∧ v4_ ≤ 12
      · have H5_ := Lib.hid h5_
        clear h5_
        obtain ⟨H5_a, H5_b⟩ := H5_.out
        go_wp2_with fail
        refine (l1In_yes _ _ _ _ H5_.out).mono ?_
        rintro e w' ⟨rfl, rfl⟩
        go_wp2
        go_round
        case rel => exact ⟨k + 1, by go_num, by omega, HNT.out.more (by rw [← Hv4_.out]; exact H5_.out)⟩
        case measure => simp [intOf] <;> omega
      · have H5_ := Lib.hid h5_
        clear h5_
        go_wp2_with fail
        refine (l1In_no _ _ _ _ H5_.out).mono ?_
        rintro e w' ⟨rfl, rfl⟩
        go_wp2
        go_ret
        exact ⟨ret_bool (need_no (fun q => H5_.out (by rw [Hv4_.out]; exact need_rg q k))).symm, rfl⟩
    · obtain rfl : k = xs.length := by omega
      by_cases h1_ : 1 ≤ (xs.length : Int) ∧ (xs.length : Int) ≤ 4
      · have H1_ := Lib.hid h1_
        clear h1_
        obtain ⟨H1_a, H1_b⟩ := H1_.out
        go_wp2_with fail
        refine (l1In_yes _ _ _ _ H1_.out).mono ?_
        rintro e w' ⟨rfl, rfl⟩
        go_wp2
        go_ret
        exact ⟨ret_bool (need_yes HNT.out (by omega) (by omega)).symm, rfl⟩
      · have H1_ := Lib.hid h1_
        clear h1_
        go_wp2_with fail
        refine (l1In_no _ _ _ _ H1_.out).mono ?_
        rintro e w' ⟨rfl, rfl⟩
        go_wp2
        go_ret
        exact ⟨ret_bool (need_no (fun q => H1_.out (by have e := need_bd q; omega))).symm, rfl⟩

/-- What RunwayCost returns. -/
def runCost (xs : List Int) (s : Int) : Int := if needB xs = true ∧ 0 ≤ s ∧ s < 2 ^ xs.length then costTo xs s xs.length else -1
theorem runCost_rg (xs : List Int) (s : Int) : -1 ≤ runCost xs s ∧ runCost xs s ≤ 12 := by
  unfold runCost; split
  · rename_i h; have e := cost_rg (need_rg h.1) s xs.length; omega
  · omega

/-- What RunwayShares and RunwayOrders return. -/
def sharesRow (xs : List Int) : List Int := if needB xs = true then shareR xs else []
theorem sharesRow_yes {xs : List Int} (h : needB xs = true) : sharesRow xs = shareR xs := if_pos h
theorem sharesRow_len (xs : List Int) : (sharesRow xs).length ≤ xs.length := by
  unfold sharesRow; split
  · rw [shareR_length]; exact Nat.le_refl _
  · simp
theorem sharesRow_len4 (xs : List Int) : (sharesRow xs).length ≤ 4 := by
  unfold sharesRow; split
  · rename_i h; rw [shareR_length]; exact (need_bd h).2
  · simp
theorem sharesRow_rg (xs : List Int) (k : Nat) : 0 ≤ (sharesRow xs).getD k 0 ∧ (sharesRow xs).getD k 0 ≤ 576 := by
  unfold sharesRow; split
  · rename_i h
    by_cases hk : k < xs.length
    · have e := share_rg h k
      rw [shareR, fnRow_getD _ hk]; omega
    · rw [getD_far _ (by rw [shareR_length]; omega)]; omega
  · simp [List.getD]

/-- A row of the call's own, from its start. -/
def RetGrow (w : World) (xs : List Int) (e : Ending) (w' : World) : Prop := ∃ g c, e = .returned (.slice (some ⟨g, 0, none⟩) xs.length c) ∧ w.heap.size ≤ g ∧ Grow w' g c xs ∧ Below w.heap.size w w'
theorem retGrow_mk {w w' : World} {g c : Nat} {xs : List Int} (h : Grow w' g c xs) (hb : w.heap.size ≤ g) {n : Nat} (hn : n = xs.length) (hB : Below w.heap.size w w') : RetGrow w xs (.returned (.slice (some ⟨g, 0, none⟩) n c)) w' := ⟨g, c, by rw [hn], hb, h, hB⟩
theorem RetGrow.ints {w w' : World} {xs : List Int} {e : Ending} (h : RetGrow w xs e w') : RetInts w xs e w' := by
  obtain ⟨g, c, rfl, hb, h, hB⟩ := h
  exact retInts_grow h hb rfl hB

set_option maxRecDepth 10000 in
set_option maxHeartbeats 2000000 in
theorem specRunwayShares_yes (A : Option Addr) (c : Nat) (xs : List Int) (w : World) (lo hi : Nat) (h : Ints w lo hi A xs) (hh : hi ≤ w.heap.size) (hl : xs.length ≤ 1152921504606846976) (hb : needB xs = true) :
    Calls Try.prog 25 #[.slice A xs.length c] w (RetGrow w (sharesRow xs)) := by
  have HNB := Lib.hid hb
  have hbd := need_bd hb
  obtain ⟨hx1, hx4⟩ := hbd
  obtain ⟨hpw1, hpw2⟩ := pow_bd hx4
  have HV := Lib.hid (need_rg hb)
  clear hb
  go_enter Try.func25, Try.ntmps25
  have o1_ := h.alloc (by first | omega | (simp; omega) | simp) (.cells #[] 3)
  have B2_ := (Below.refl w.heap.size w).alloc (Nat.le_refl _) (.cells #[] 3)
  have G3_ : Grow (w.alloc (.cells #[] 3)) (w.heap.size) 0 ([] : List Int) := by have e := grow_lit w ([] : List Int) (by simp); (try simp only [hsz] at e); exact e
  have l4_ := G3_.lt
  have HL5_ : Hid (([] : List Int).length = 0) := rfl
  go_wp2
  go_loopw [4, 3] (fun i v wr => ∃ k : Nat, ∃ g cg : Nat, i = .int .i64 k ∧ v = .slice (some ⟨g, 0, none⟩) k cg ∧ (k ≤ xs.length) ∧ w.heap.size ≤ g ∧ Grow wr g cg (fnRow k (shareAt xs)) ∧ Below w.heap.size w wr ∧ w.heap.size + 1 ≤ wr.heap.size ∧ Ints wr (lo) (hi) A xs) (fun i v _ => xs.length - (intOf i).toNat)
  case atStart => exact ⟨0, w.heap.size, 0, rfl, (slice_n (by first | rfl | omega | simp)), by omega, (by omega), (by show Grow _ _ _ []; exact G3_), B2_, (by first | omega | (simp; omega) | simp), o1_⟩
  case round =>
    obtain ⟨k, g, cg, rfl, rfl, hk, glb, G7_, k8_, k9_, k10_⟩ := hrel
    obtain ⟨w6, rfl⟩ : ∃ x, x = wr := ⟨_, rfl⟩
    have HL11_ : Hid ((fnRow k (shareAt xs)).length = k) := fnRow_length _ _
    have l12_ := G7_.lt
    by_cases hlt0 : k < xs.length
    · go_wp2_with fail
      refine (specNeedsOk_any A c xs _ _ _ k10_ (by omega)).mono ?_
      rintro e w' ⟨he, rfl⟩
      rw [HNB.out] at he
      subst he
      obtain ⟨b13_, f14_, rfl, _, b13_h, -⟩ := k10_ (by omega)
      have c15_ : w6.cell? ⟨b13_, f14_ + k, none⟩ = some (.int .i64 (xs.getD k 0)) := k10_.at2 k (by first | omega | (simp; omega) | simp)
      have c15_i : (k : Int) < (xs.length : Int) := by omega
      have c15_j : (0 : Int) ≤ (k : Int) := by omega
      have v16_g := (HV.out k : 0 ≤ xs.getD k 0 ∧ xs.getD k 0 ≤ 12)
      obtain ⟨v16_, hv16_⟩ : ∃ v, v = xs.getD k 0 := ⟨_, rfl⟩
      rw [← hv16_] at c15_ v16_g
      have Hv16_ := Lib.hid hv16_
      clear hv16_
      obtain ⟨v16_g1, v16_g2⟩ := v16_g
      go_wp2
      go_loopw [5, 6] (fun s j wr => ∃ u : Nat, ∃ S : Int, s = .int .i64 S ∧ j = .int .i64 ((u : Int) + 1) ∧ ((u : Int) ≤ v16_) ∧ (S = sumN (unitP xs) u) ∧ Below w.heap.size w wr ∧ w6.heap.size ≤ wr.heap.size ∧ Ints wr (lo) (hi) (some ⟨b13_, f14_, none⟩) xs ∧ Grow wr g cg (fnRow k (shareAt xs))) (fun s j _ => (v16_).toNat + 1 - (intOf j).toNat)
      case atStart => exact ⟨0, 0, rfl, rfl, by omega, rfl, k8_, (by first | omega | (simp; omega) | simp), k10_, G7_⟩
      case round =>
        obtain ⟨u, S, rfl, rfl, hu, hSU, k18_, k19_, k20_, k21_⟩ := hrel
        obtain ⟨w17, rfl⟩ : ∃ x, x = wr := ⟨_, rfl⟩
        have hSb := shareTo_rg (xs := xs) hx4 u
        rw [← hSU] at hSb
        obtain ⟨hSb1, hSb2⟩ := hSb
        have HSU := Lib.hid hSU
        clear hSU
        by_cases hlt2 : (u : Int) + 1 ≤ v16_
        · have c22_ : w17.cell? ⟨b13_, f14_ + k, none⟩ = some (.int .i64 v16_) := by rw [Hv16_.out]; exact k20_.at2 k (by first | omega | (simp; omega) | simp)
          have c22_i : (k : Int) < (xs.length : Int) := by omega
          have c22_j : (0 : Int) ≤ (k : Int) := by omega
          go_wp2
          go_loopw [7, 8] (fun m jj wr => ∃ j : Nat, ∃ M : Int, m = .int .i64 M ∧ jj = .int .i64 j ∧ (j ≤ xs.length) ∧ (M = manyTo xs u j) ∧ Below w.heap.size w wr ∧ w17.heap.size ≤ wr.heap.size ∧ Ints wr (lo) (hi) (some ⟨b13_, f14_, none⟩) xs ∧ Grow wr g cg (fnRow k (shareAt xs))) (fun m jj _ => xs.length - (intOf jj).toNat)
          case atStart => exact ⟨0, 0, rfl, rfl, Nat.zero_le _, rfl, k18_, (by first | omega | (simp; omega) | simp), k20_, k21_⟩
          case round =>
            obtain ⟨j, M, rfl, rfl, hj, hM, k24_, k25_, k26_, k27_⟩ := hrel
            obtain ⟨w23, rfl⟩ : ∃ x, x = wr := ⟨_, rfl⟩
            have hMb := many_rg xs u j
            rw [← hM] at hMb
            obtain ⟨hMb1, hMb2⟩ := hMb
            have HM := Lib.hid hM
            clear hM
            by_cases hlt4 : j < xs.length
            · have c28_ : w23.cell? ⟨b13_, f14_ + j, none⟩ = some (.int .i64 (xs.getD j 0)) := k26_.at2 j (by first | omega | (simp; omega) | simp)
              have c28_i : (j : Int) < (xs.length : Int) := by omega
              have c28_j : (0 : Int) ≤ (j : Int) := by omega
              have v29_g := (HV.out j : 0 ≤ xs.getD j 0 ∧ xs.getD j 0 ≤ 12)
              obtain ⟨v29_, hv29_⟩ : ∃ v, v = xs.getD j 0 := ⟨_, rfl⟩
              rw [← hv29_] at c28_ v29_g
              have Hv29_ := Lib.hid hv29_
              clear hv29_
              obtain ⟨v29_g1, v29_g2⟩ := v29_g
              by_cases h30_ : v29_ ≥ ((u : Int) + 1)
              · have h30_d : decide (v29_ ≥ ((u : Int) + 1)) = true := decide_eq_true h30_
                go_wp2
                go_roundw
                case rel => exact ⟨j + 1, M + 1, by go_num, by go_num, by omega, by simp only [manyTo]; rw [← HM.out, hit_yes (by rw [← Hv29_.out]; omega)], k24_, (by first | omega | (simp; omega) | simp), k26_, k27_⟩
                case measure => simp [intOf] <;> omega
              · have h30_d : decide (v29_ ≥ ((u : Int) + 1)) = false := decide_eq_false h30_
                go_wp2
                go_roundw
                case rel => exact ⟨j + 1, M, by go_num, by go_num, by omega, by simp only [manyTo]; rw [← HM.out, hit_no (by rw [← Hv29_.out]; omega)]; omega, k24_, (by first | omega | (simp; omega) | simp), k26_, k27_⟩
                case measure => simp [intOf] <;> omega
            · obtain rfl : j = xs.length := by omega
              have hM1 : 1 ≤ M := by rw [HM.out]; exact many_pos (k := k) (by omega) (by rw [← Hv16_.out]; omega)
              have hq28_a := Int.ediv_nonneg (show 0 ≤ (48 : Int) by omega) (show 0 ≤ M by omega)
              have hq28_b := Int.ediv_le_self M (show 0 ≤ (48 : Int) by omega)
              have hq28_ : IntKind.i64.wrap ((48 : Int).tdiv M) = (48 : Int) / M := by rw [Int.tdiv_eq_ediv_of_nonneg (by omega)]; exact IntWalk.i64_in _ (by omega)
              have hq28_y : (M == 0) = false := by simp only [beq_eq_false_iff_ne]; omega
              have hq28_z : (M = 0) = False := eq_false (by omega)
              go_wp2
              go_roundw
              case rel => exact ⟨u + 1, S + 48 / M, by go_num, by go_num, by omega, by show _ = sumN (unitP xs) u + unitP xs u; rw [← HSU.out]; unfold unitP; rw [← HM.out], k24_, (by first | omega | (simp; omega) | simp), k26_, k27_⟩
              case measure => simp [intOf] <;> omega
        · have c22_ : w17.cell? ⟨b13_, f14_ + k, none⟩ = some (.int .i64 v16_) := by rw [Hv16_.out]; exact k20_.at2 k (by first | omega | (simp; omega) | simp)
          have c22_i : (k : Int) < (xs.length : Int) := by omega
          have c22_j : (0 : Int) ≤ (k : Int) := by omega
          have o23_ := k20_.alloc (by first | omega | (simp; omega) | simp) (.cells #[.int .i64 S] 3)
          have o24_ := k21_.alloc (.cells #[.int .i64 S] 3)
          have B25_ := k18_.alloc (by first | omega | (simp; omega) | simp) (.cells #[.int .i64 S] 3)
          have G26_ : Grow (w17.alloc (.cells #[.int .i64 S] 3)) (w17.heap.size) 1 ([S] : List Int) := by have e := grow_lit w17 ([S] : List Int) (by simp); (try simp only [hsz] at e); exact e
          have l27_ := G26_.lt
          have HL28_ : Hid (([S] : List Int).length = 1) := rfl
          go_upto_region 4 with (at_builtin; (refine append_gr (by rfl) _ _ (by rfl) (xs := (fnRow k (shareAt xs))) (ys := ([S] : List Int)) (by rfl) (by have e := HL11_.out; omega) o24_ (by rfl) (by have e := HL28_.out; omega) (G26_.ints.read) (by omega) ?_; intro g29_ c30_ w31 G31_ hC32_ hg33_))
          have o35_ := o23_.chg hC32_ (by first | omega | (simp; omega) | simp) (by omega)
          have o36_ := G26_.chg hC32_ (by omega)
          have z37_ := hC32_.size
          try simp at z37_
          have B38_ := B25_.trans (hC32_.below (by omega) (by first | omega | (simp; omega) | simp))
          clear hC32_
          have l39_ := G31_.lt
          have HL40_ : Hid (((fnRow k (shareAt xs)) ++ ([S] : List Int)).length = k + 1) := by show _ = _; rw [List.length_append, HL11_.out, HL28_.out]
          go_wp2
          go_roundw
          case rel => exact ⟨k + 1, g29_, c30_, by go_num, (slice_n (by first | rfl | omega | simp)), by omega, (by omega), (by rw [fnRow_succ, show shareAt xs k = S from by rw [HSU.out]; unfold shareAt; congr 1; rw [← Hv16_.out]; omega]; exact G31_), B38_, (by first | omega | (simp; omega) | simp), o35_⟩
          case measure => simp [intOf] <;> omega
    · obtain rfl : k = xs.length := by omega
      have hfin : sharesRow xs = fnRow xs.length (shareAt xs) := sharesRow_yes HNB.out
      have HFIN := Lib.hid hfin
      clear hfin
      go_wp2
      go_ret
      rw [HFIN.out]
      (refine retGrow_mk G7_ (by omega) ?_ k8_; rw [fnRow_length])

set_option maxRecDepth 10000 in
set_option maxHeartbeats 2000000 in
theorem specRunwayShares_no (A : Option Addr) (c : Nat) (xs : List Int) (w : World) (lo hi : Nat) (h : Ints w lo hi A xs) (hh : hi ≤ w.heap.size) (hl : xs.length ≤ 1152921504606846976) (hb : needB xs = false) :
    Calls Try.prog 25 #[.slice A xs.length c] w (RetGrow w (sharesRow xs)) := by
  have HNB := Lib.hid hb
  clear hb
  go_enter Try.func25, Try.ntmps25
  have o1_ := h.alloc (by first | omega | (simp; omega) | simp) (.cells #[] 3)
  have B2_ := (Below.refl w.heap.size w).alloc (Nat.le_refl _) (.cells #[] 3)
  have G3_ : Grow (w.alloc (.cells #[] 3)) (w.heap.size) 0 ([] : List Int) := by have e := grow_lit w ([] : List Int) (by simp); (try simp only [hsz] at e); exact e
  have l4_ := G3_.lt
  have HL5_ : Hid (([] : List Int).length = 0) := rfl
  go_wp2
  go_loopw [4, 3] (fun i v wr => ∃ g cg : Nat, i = .int .i64 0 ∧ v = .slice (some ⟨g, 0, none⟩) 0 cg ∧ w.heap.size ≤ g ∧ Grow wr g cg ([] : List Int) ∧ Below w.heap.size w wr ∧ w.heap.size + 1 ≤ wr.heap.size ∧ Ints wr (lo) (hi) A xs) (fun i v _ => xs.length)
  case atStart => exact ⟨w.heap.size, 0, rfl, (slice_n (by first | rfl | omega | simp)), (by omega), G3_, B2_, (by first | omega | (simp; omega) | simp), o1_⟩
  case round =>
    obtain ⟨g, cg, rfl, rfl, glb, G7_, k8_, k9_, k10_⟩ := hrel
    obtain ⟨w6, rfl⟩ : ∃ x, x = wr := ⟨_, rfl⟩
    have l11_ := G7_.lt
    by_cases hlt0 : 0 < xs.length
    · go_wp2_with fail
      refine (specNeedsOk_any A c xs _ _ _ k10_ (by omega)).mono ?_
      rintro e w' ⟨he, rfl⟩
      rw [HNB.out] at he
      subst he
      have hfin : sharesRow xs = ([] : List Int) := by rw [sharesRow, if_neg (by rw [HNB.out]; simp)]
      have HFIN := Lib.hid hfin
      clear hfin
      go_wp2
      go_ret
      rw [HFIN.out]
      (refine retGrow_mk G7_ (by omega) ?_ k8_; rfl)
    · have hfin : sharesRow xs = ([] : List Int) := by rw [sharesRow, if_neg (by rw [HNB.out]; simp)]
      have HFIN := Lib.hid hfin
      clear hfin
      go_wp2
      go_ret
      rw [HFIN.out]
      (refine retGrow_mk G7_ (by omega) ?_ k8_; rfl)

theorem specRunwayShares_gr (A : Option Addr) (c : Nat) (xs : List Int) (w : World) (lo hi : Nat) (h : Ints w lo hi A xs) (hh : hi ≤ w.heap.size) (hl : xs.length ≤ 1152921504606846976) :
    Calls Try.prog 25 #[.slice A xs.length c] w (RetGrow w (sharesRow xs)) := by
  by_cases hb : needB xs = true
  · exact specRunwayShares_yes A c xs w lo hi h hh hl hb
  · exact specRunwayShares_no A c xs w lo hi h hh hl (by simpa using hb)

theorem specRunwayShares_any (A : Option Addr) (c : Nat) (xs : List Int) (w : World) (lo hi : Nat) (h : Ints w lo hi A xs) (hh : hi ≤ w.heap.size) (hl : xs.length ≤ 1152921504606846976) :
    Calls Try.prog 25 #[.slice A xs.length c] w (RetInts w (sharesRow xs)) := (specRunwayShares_gr A c xs w lo hi h hh hl).mono fun _ _ h => h.ints

/-- What one pays by the first m orders together. -/
def runTot (xs : List Int) (m i : Nat) : Int := (((perms xs.length).take m).map fun os => runTo xs os i xs.length).sum
theorem runTot_zero (xs : List Int) (i : Nat) : runTot xs 0 i = 0 := by simp [runTot]
theorem runTot_succ (xs : List Int) {m : Nat} (h : m < (perms xs.length).length) (i : Nat) : runTot xs (m + 1) i = runTot xs m i + runTo xs ((perms xs.length).getD m []) i xs.length := by
  unfold runTot
  rw [List.take_succ_eq_append_getElem h, List.map_append, List.sum_append]
  simp [List.getD, List.getElem?_eq_getElem h]
theorem runTot_all (xs : List Int) (i : Nat) : runTot xs (perms xs.length).length i = ((perms xs.length).map fun os => runTo xs os i xs.length).sum := by simp [runTot]
theorem runTot_rg {xs : List Int} (h : needB xs = true) (i : Nat) : ∀ m, m ≤ (perms xs.length).length → 0 ≤ runTot xs m i ∧ runTot xs m i ≤ 2304 * m
  | 0, _ => by rw [runTot_zero]; simp
  | m + 1, hm => by
    have e := runTot_rg h i m (by omega)
    have e2 := run_rg (need_rg h) ((perms xs.length).getD m []) i xs.length
    have e3 := need_bd h
    rw [runTot_succ xs (by omega)]
    omega
theorem runMid_rg {xs : List Int} (h : needB xs = true) {m j k : Nat} (hm : m < (perms xs.length).length) (hj : j ≤ xs.length) (hk : k < xs.length) : 0 ≤ (fnRow xs.length (fun i => runTot xs m i + runTo xs ((perms xs.length).getD m []) i j)).getD k 0 ∧ (fnRow xs.length (fun i => runTot xs m i + runTo xs ((perms xs.length).getD m []) i j)).getD k 0 ≤ 60000 := by
  have hb := need_bd h
  have hp := perms_few xs.length hb.2
  rw [fnRow_getD _ hk]
  have e1 := runTot_rg h k m (by omega)
  have e2 := run_rg (need_rg h) ((perms xs.length).getD m []) k j
  omega
theorem runDiv_rg {xs : List Int} (h : needB xs = true) {q k : Nat} (hk : k < xs.length) (hq : q ≤ k) : 0 ≤ (fnRow xs.length (fun i => if i < q then shareAt xs i else runTot xs (perms xs.length).length i)).getD k 0 ∧ (fnRow xs.length (fun i => if i < q then shareAt xs i else runTot xs (perms xs.length).length i)).getD k 0 ≤ 60000 := by
  have hp := perms_few xs.length (need_bd h).2
  rw [fnRow_getD _ hk]
  have e1 := runTot_rg h k _ (Nat.le_refl _)
  rw [if_neg (by omega)]
  omega
theorem run_step {xs y : List Int} {n m j x : Nat} {o v M L : Int} (hy : (perms xs.length).getD m [] = y) (_hn : n = xs.length) (hx : x < n) (hv : y.getD j 0 = (x : Int)) (hL : L = longTo xs y j) (ho : o = (fnRow n (fun i => runTot xs m i + runTo xs ((perms xs.length).getD m []) i j)).getD x 0) (hvn : v = xs.getD x 0) (hM : max L v = M) : (fnRow n (fun i => runTot xs m i + runTo xs ((perms xs.length).getD m []) i j)).set x (o + 48 * (M - L)) = fnRow n (fun i => runTot xs m i + runTo xs ((perms xs.length).getD m []) i (j + 1)) := by
  subst hy
  have hx2 : (((perms xs.length).getD m []).getD j 0).toNat = x := by rw [hv]; simp
  refine fnRow_set (fun i _ hi => ?_) ?_
  · simp only [runTo]; rw [if_neg (by rw [hx2]; exact fun z => hi z.symm)]; omega
  · rw [ho, fnRow_getD _ hx]
    simp only [runTo]; rw [if_pos hx2, ← hL, ← hvn, hM]; omega
theorem long_step {xs y : List Int} {j x : Nat} {v M L : Int} (hv : y.getD j 0 = (x : Int)) (hL : L = longTo xs y j) (hvn : v = xs.getD x 0) (hM : max L v = M) : M = longTo xs y (j + 1) := by
  simp only [longTo]; rw [← hL, show (y.getD j 0).toNat = x from by rw [hv]; simp, ← hvn, hM]
theorem runRow_zero (xs : List Int) : fnRow xs.length (runTot xs 0) = List.replicate xs.length 0 := by rw [← fnRow_zero]; exact fnRow_congr fun i _ => runTot_zero xs i
theorem runRow_start (xs : List Int) (m : Nat) : fnRow xs.length (fun i => runTot xs m i + runTo xs ((perms xs.length).getD m []) i 0) = fnRow xs.length (runTot xs m) := fnRow_congr fun i _ => by simp [runTo]
theorem runRow_next (xs : List Int) {m : Nat} (h : m < (perms xs.length).length) : fnRow xs.length (fun i => runTot xs m i + runTo xs ((perms xs.length).getD m []) i xs.length) = fnRow xs.length (runTot xs (m + 1)) := fnRow_congr fun i _ => (runTot_succ xs h i).symm
theorem runDiv_step {xs : List Int} (h : needB xs = true) {q : Nat} {v : Int} (hq : q < xs.length) (hv : v = (fnRow xs.length (fun i => if i < q then shareAt xs i else runTot xs (perms xs.length).length i)).getD q 0) : (fnRow xs.length (fun i => if i < q then shareAt xs i else runTot xs (perms xs.length).length i)).set q (v / ((perms xs.length).length : Int)) = fnRow xs.length (fun i => if i < q + 1 then shareAt xs i else runTot xs (perms xs.length).length i) := by
  refine fnRow_set (fun i _ hn => ?_) ?_
  · by_cases e : i < q
    · (try simp only []); rw [if_pos e, if_pos (by omega)]
    · (try simp only []); rw [if_neg e, if_neg (by omega)]
  · rw [hv, fnRow_getD _ hq]
    (try simp only []); rw [if_neg (by omega), if_pos (by omega), runTot_all, run_mean h hq]
theorem runDiv_zero (xs : List Int) : fnRow xs.length (fun i => if i < 0 then shareAt xs i else runTot xs (perms xs.length).length i) = fnRow xs.length (runTot xs (perms xs.length).length) := fnRow_congr fun _ _ => if_neg (by omega)
theorem runDiv_all (xs : List Int) : fnRow xs.length (fun i => if i < xs.length then shareAt xs i else runTot xs (perms xs.length).length i) = shareR xs := fnRow_congr fun _ hi => if_pos hi

set_option maxRecDepth 10000 in
set_option maxHeartbeats 2000000 in
theorem specRunwayOrders_yes (A : Option Addr) (c : Nat) (xs : List Int) (w : World) (lo hi : Nat) (h : Ints w lo hi A xs) (hh : hi ≤ w.heap.size) (hl : xs.length ≤ 1000000000) (hb : needB xs = true) :
    Calls Try.prog 30 #[.slice A xs.length c] w (RetInts w (sharesRow xs)) := by
  have HNB := Lib.hid hb
  have hbd := need_bd hb
  obtain ⟨hx1, hx4⟩ := hbd
  obtain ⟨hpw1, hpw2⟩ := pow_bd hx4
  have HV := Lib.hid (need_rg hb)
  clear hb
  have hpf := perms_few xs.length hx4
  obtain ⟨hpf1, hpf2⟩ := hpf
  go_enter Try.func30, Try.ntmps30
  go_upto_region 2 with (at_make; (refine make_gr (by rfl) _ _ (by rfl) (n := xs.length) (x := (xs.length : Int)) (by omega) (by rfl) (by rfl) (by omega) ?_; intro w1 G1_ hb2_))
  have o4_ := h.below hb2_ (by first | omega | (simp; omega) | simp)
  have z5_ := hb2_.size
  have B6_ := (Below.refl w.heap.size w).trans (hb2_.mono (by first | omega | (simp; omega) | simp))
  clear hb2_
  have l7_ := G1_.lt
  have HL8_ : Hid ((List.replicate xs.length 0).length = xs.length) := List.length_replicate
  go_wp2_with fail
  refine (specNeedsOk_any A c xs _ _ _ o4_ (by omega)).mono ?_
  rintro e w' ⟨he, rfl⟩
  rw [HNB.out] at he
  subst he
  go_wp2_with fail
  refine (l7Orders_any xs.length _ (by omega)).mono ?_
  rintro e w9 ⟨g12_, c13_, rfl, R10_, hb11_⟩
  have o16_ := o4_.below hb11_ (by first | omega | (simp; omega) | simp)
  have o17_ := G1_.below hb11_ (by first | omega | (simp; omega) | simp)
  have z18_ := hb11_.size
  have B19_ := B6_.trans (hb11_.mono (by first | omega | (simp; omega) | simp))
  clear hb11_
  have l14_ := R10_.lt
  have l15_ := R10_.ge
  go_wp2
  go_loopw [5] (fun i wr => ∃ m : Nat, i = .int .i64 m ∧ (m ≤ (perms xs.length).length) ∧ Grow wr w.heap.size xs.length (fnRow xs.length (runTot xs m)) ∧ Below w.heap.size w wr ∧ w9.heap.size ≤ wr.heap.size ∧ Ints wr (lo) (hi) A xs ∧ Rows wr true w1.heap.size w9.heap.size g12_ c13_ (perms xs.length)) (fun i _ => (perms xs.length).length - (intOf i).toNat)
  case atStart => exact ⟨0, rfl, Nat.zero_le _, (by rw [runRow_zero]; exact o17_), B19_, (by first | omega | (simp; omega) | simp), o16_, R10_⟩
  case round =>
    obtain ⟨m, rfl, hm, G21_, k22_, k23_, k24_, k25_⟩ := hrel
    obtain ⟨w20, rfl⟩ : ∃ x, x = wr := ⟨_, rfl⟩
    have HL26_ : Hid ((fnRow xs.length (runTot xs m)).length = xs.length) := (fnRow_length _ _)
    have l27_ := G21_.lt
    by_cases hlt0 : m < (perms xs.length).length
    · obtain ⟨B28_, d29_, c30_, F31_, rm33_, F31_n⟩ := k25_.at_ m (by omega)
      obtain ⟨b34_, f35_, rfl⟩ := F31_n rfl
      obtain ⟨y32_, hy32_⟩ : ∃ y, (perms xs.length).getD m [] = y := ⟨_, rfl⟩
      rw [hy32_] at c30_ F31_ rm33_
      have Hy32_ := Lib.hid hy32_
      clear hy32_
      have HLy32_ : Hid (y32_.length = xs.length) := by show _ = _; rw [← Hy32_.out]; exact perms_at (by omega) (by omega)
      rw [HLy32_.out] at c30_ rm33_
      have c30_ : w20.cell? ⟨g12_, m, none⟩ = some (.slice (some ⟨b34_, f35_, none⟩) xs.length d29_) := c30_
      have c30_i : (m : Int) < ((perms xs.length).length : Int) := by omega
      have c30_j : (0 : Int) ≤ (m : Int) := by omega
      go_wp2
      go_loopw [7, 6] (fun i lg wr => ∃ j : Nat, ∃ L : Int, i = .int .i64 j ∧ lg = .int .i64 L ∧ (j ≤ xs.length) ∧ (L = longTo xs y32_ j) ∧ Grow wr w.heap.size xs.length (fnRow xs.length (fun i => runTot xs m i + runTo xs ((perms xs.length).getD m []) i j)) ∧ Below w.heap.size w wr ∧ w20.heap.size ≤ wr.heap.size ∧ Ints wr (lo) (hi) A xs ∧ Rows wr true w1.heap.size w9.heap.size g12_ c13_ (perms xs.length) ∧ Ints wr (w1.heap.size) (w9.heap.size) (some ⟨b34_, f35_, none⟩) y32_) (fun i lg _ => xs.length - (intOf i).toNat)
      case atStart => exact ⟨0, 0, rfl, rfl, Nat.zero_le _, rfl, (by rw [runRow_start]; exact G21_), k22_, (by first | omega | (simp; omega) | simp), k24_, k25_, F31_⟩
      case round =>
        obtain ⟨j, L, rfl, rfl, hj, hLo, G37_, k38_, k39_, k40_, k41_, k42_⟩ := hrel
        obtain ⟨w36, rfl⟩ : ∃ x, x = wr := ⟨_, rfl⟩
        have HL43_ : Hid ((fnRow xs.length (fun i => runTot xs m i + runTo xs ((perms xs.length).getD m []) i j)).length = xs.length) := (fnRow_length _ _)
        have l44_ := G37_.lt
        have hLb := long_rg HV.out y32_ j
        rw [← hLo] at hLb
        obtain ⟨hLb1, hLb2⟩ := hLb
        have HLO := Lib.hid hLo
        clear hLo
        by_cases hlt2 : j < xs.length
        · obtain ⟨B45_, d46_, c47_, F48_, rm50_, F48_n⟩ := k41_.at_ m (by omega)
          obtain ⟨b51_, f52_, rfl⟩ := F48_n rfl
          rw [Hy32_.out] at c47_ F48_ rm50_
          rw [HLy32_.out] at c47_ rm50_
          have c47_ : w36.cell? ⟨g12_, m, none⟩ = some (.slice (some ⟨b51_, f52_, none⟩) xs.length d46_) := c47_
          have c47_i : (m : Int) < ((perms xs.length).length : Int) := by omega
          have c47_j : (0 : Int) ≤ (m : Int) := by omega
          have c53_ : w36.cell? ⟨b51_, f52_ + j, none⟩ = some (.int .i64 (y32_.getD j 0)) := F48_.at2 j (by have e := HLy32_.out; omega)
          have c53_i : (j : Int) < (xs.length : Int) := by omega
          have c53_j : (0 : Int) ≤ (j : Int) := by omega
          have v54_g := (show 0 ≤ y32_.getD j 0 ∧ y32_.getD j 0 < (xs.length : Int) from by rw [← Hy32_.out]; exact perm_rg (by omega) (by omega) (by omega))
          obtain ⟨v54_, hv54_⟩ : ∃ v, v = y32_.getD j 0 := ⟨_, rfl⟩
          rw [← hv54_] at c53_ v54_g
          have Hv54_ := Lib.hid hv54_
          clear hv54_
          obtain ⟨v54_g1, v54_g2⟩ := v54_g
          obtain ⟨x55_, hx55_⟩ : ∃ x : Nat, v54_ = (x : Int) := ⟨(v54_).toNat, by omega⟩
          have Hx55_ := Lib.hid hx55_
          have x55_b : x55_ < xs.length := by omega
          have c56_ : w36.cell? ⟨w.heap.size, x55_, none⟩ = some (.int .i64 ((fnRow xs.length (fun i => runTot xs m i + runTo xs ((perms xs.length).getD m []) i j)).getD x55_ 0)) := G37_.at_ x55_ (by rw [fnRow_length]; omega)
          have c56_i : (x55_ : Int) < (xs.length : Int) := by omega
          have c56_j : (0 : Int) ≤ (x55_ : Int) := by omega
          have v57_g := runMid_rg HNB.out (m := m) (j := j) (k := x55_) (by omega) (by omega) (by omega)
          obtain ⟨v57_, hv57_⟩ : ∃ v, v = (fnRow xs.length (fun i => runTot xs m i + runTo xs ((perms xs.length).getD m []) i j)).getD x55_ 0 := ⟨_, rfl⟩
          rw [← hv57_] at c56_ v57_g
          have Hv57_ := Lib.hid hv57_
          clear hv57_
          obtain ⟨v57_g1, v57_g2⟩ := v57_g
          obtain ⟨b58_, f59_, rfl, _, b58_h, -⟩ := k40_ (by omega)
          have c60_ : w36.cell? ⟨b58_, f59_ + x55_, none⟩ = some (.int .i64 (xs.getD x55_ 0)) := k40_.at2 x55_ (by first | omega | (simp; omega) | simp)
          have c60_i : (x55_ : Int) < (xs.length : Int) := by omega
          have c60_j : (0 : Int) ≤ (x55_ : Int) := by omega
          have v61_g := (HV.out x55_ : 0 ≤ xs.getD x55_ 0 ∧ xs.getD x55_ 0 ≤ 12)
          obtain ⟨v61_, hv61_⟩ : ∃ v, v = xs.getD x55_ 0 := ⟨_, rfl⟩
          rw [← hv61_] at c60_ v61_g
          have Hv61_ := Lib.hid hv61_
          clear hv61_
          obtain ⟨v61_g1, v61_g2⟩ := v61_g
          obtain ⟨m62_, hm62_⟩ : ∃ m : Int, (if v61_ > L then v61_ else L) = m := ⟨_, rfl⟩
          have hm62_x : max L v61_ = m62_ := by rw [← hm62_]; split <;> omega
          have Hm62_ := Lib.hid hm62_x
          have m62_l : m62_ ≥ L := by have e := Hm62_.out; omega
          have m62_u : m62_ ≥ v61_ := by have e := Hm62_.out; omega
          have m62_o : m62_ = L ∨ m62_ = v61_ := by have e := Hm62_.out; omega
          have hw63_ : IntKind.i64.wrap (m62_ - L) = (m62_ - L) := IntWalk.i64_in _ (by omega)
          have hw64_ : IntKind.i64.wrap (48 * (m62_ - L)) = (48 * (m62_ - L)) := IntWalk.i64_in _ (by omega)
          have hw65_ : IntKind.i64.wrap (v57_ + (48 * (m62_ - L))) = (v57_ + (48 * (m62_ - L))) := IntWalk.i64_in _ (by omega)
          have c66_ := G37_.at_ x55_ (by rw [fnRow_length]; omega)
          have c66_f := G37_.soft x55_ (by rw [fnRow_length]; omega)
          clear c66_
          have c66_i : (x55_ : Int) < (xs.length : Int) := by omega
          have c66_j : (0 : Int) ≤ (x55_ : Int) := by omega
          have hw69_ : IntKind.i64.wrap (m62_ - L) = (m62_ - L) := IntWalk.i64_in _ (by omega)
          have hw70_ : IntKind.i64.wrap (48 * (m62_ - L)) = (48 * (m62_ - L)) := IntWalk.i64_in _ (by omega)
          have hw71_ : IntKind.i64.wrap (v57_ + (48 * (m62_ - L))) = (v57_ + (48 * (m62_ - L))) := IntWalk.i64_in _ (by omega)
          go_wp2_with fail
          go_region
          obtain ⟨w68, hw68⟩ : ∃ x, x = ((w36.setCell ⟨w.heap.size, x55_, none⟩ (.int .i64 (v57_ + (48 * (m62_ - L))))).drew) := ⟨_, rfl⟩
          rw [← hw68]
          have hC67_ : Chg w.heap.size (w.heap.size + 1) w36 w68 := by rw [hw68]; exact (Chg.setCell (lo := w.heap.size) (hi := w.heap.size + 1) w36 (p := ⟨w.heap.size, x55_, none⟩) ⟨Nat.le_refl _, Nat.lt_succ_self _⟩ (.int .i64 (v57_ + (48 * (m62_ - L))))).drewR
          have G72_ : Grow w68 w.heap.size xs.length ((fnRow xs.length (fun i => runTot xs m i + runTo xs ((perms xs.length).getD m []) i j)).set x55_ (v57_ + (48 * (m62_ - L)))) := by rw [hw68]; exact (G37_.store x55_ (v57_ + (48 * (m62_ - L)))).drew
          clear hw68
          have o73_ := k40_.chg hC67_ (by first | omega | (simp; omega) | simp) (by omega)
          have o74_ := k41_.chg hC67_ (by omega)
          have o75_ := k42_.chg hC67_ (by first | omega | (simp; omega) | simp) (by omega)
          have o76_ := F48_.chg hC67_ (by first | omega | (simp; omega) | simp) (by omega)
          have z77_ := hC67_.size
          have B78_ := k38_.trans (hC67_.below (by omega) (by first | omega | (simp; omega) | simp))
          clear hC67_
          have HL79_ : Hid (((fnRow xs.length (fun i => runTot xs m i + runTo xs ((perms xs.length).getD m []) i j)).set x55_ (v57_ + (48 * (m62_ - L)))).length = xs.length) := by show _ = _; rw [List.length_set]; first | rfl | omega | exact HL43_.out
          have c80_ : w68.cell? ⟨b58_, f59_ + x55_, none⟩ = some (.int .i64 v61_) := by rw [Hv61_.out]; exact o73_.at2 x55_ (by first | omega | (simp; omega) | simp)
          have c80_i : (x55_ : Int) < (xs.length : Int) := by omega
          have c80_j : (0 : Int) ≤ (x55_ : Int) := by omega
          obtain ⟨m81_, hm81_⟩ : ∃ m : Int, (if v61_ > L then v61_ else L) = m := ⟨_, rfl⟩
          have hm81_x : max L v61_ = m81_ := by rw [← hm81_]; split <;> omega
          have Hm81_ := Lib.hid hm81_x
          have m81_l : m81_ ≥ L := by have e := Hm81_.out; omega
          have m81_u : m81_ ≥ v61_ := by have e := Hm81_.out; omega
          have m81_o : m81_ = L ∨ m81_ = v61_ := by have e := Hm81_.out; omega
          go_wp2
          go_roundw
          case rel => exact ⟨j + 1, m81_, by go_num, by go_num, by omega, long_step (x := x55_) (v := v61_) (L := L) (by rw [← Hv54_.out]; exact Hx55_.out) HLO.out Hv61_.out Hm81_.out, (by rw [← run_step (y := y32_) (x := x55_) (o := v57_) (v := v61_) (M := m62_) (L := L) Hy32_.out rfl (by omega) (by rw [← Hv54_.out]; exact Hx55_.out) HLO.out Hv57_.out Hv61_.out Hm62_.out]; exact G72_), B78_, (by first | omega | (simp; omega) | simp), o73_, o74_, o75_⟩
          case measure => simp [intOf] <;> omega
        · obtain rfl : j = xs.length := by omega
          obtain ⟨B45_, d46_, c47_, F48_, rm50_, F48_n⟩ := k41_.at_ m (by omega)
          obtain ⟨b51_, f52_, rfl⟩ := F48_n rfl
          rw [Hy32_.out] at c47_ F48_ rm50_
          rw [HLy32_.out] at c47_ rm50_
          have c47_ : w36.cell? ⟨g12_, m, none⟩ = some (.slice (some ⟨b51_, f52_, none⟩) xs.length d46_) := c47_
          have c47_i : (m : Int) < ((perms xs.length).length : Int) := by omega
          have c47_j : (0 : Int) ≤ (m : Int) := by omega
          go_wp2
          go_roundw
          case rel => exact ⟨m + 1, by go_num, by omega, (by rw [← runRow_next xs (by omega)]; exact G37_), k38_, (by first | omega | (simp; omega) | simp), k40_, k41_⟩
          case measure => simp [intOf] <;> omega
    · obtain rfl : m = (perms xs.length).length := by omega
      go_wp2
      go_loopw [9] (fun i wr => ∃ q : Nat, i = .int .i64 q ∧ (q ≤ xs.length) ∧ Grow wr w.heap.size xs.length (fnRow xs.length (fun i => if i < q then shareAt xs i else runTot xs (perms xs.length).length i)) ∧ Below w.heap.size w wr ∧ w20.heap.size ≤ wr.heap.size ∧ Ints wr (lo) (hi) A xs ∧ Rows wr true w1.heap.size w9.heap.size g12_ c13_ (perms xs.length)) (fun i _ => xs.length - (intOf i).toNat)
      case atStart => exact ⟨0, rfl, Nat.zero_le _, (by rw [runDiv_zero]; exact G21_), k22_, (by first | omega | (simp; omega) | simp), k24_, k25_⟩
      case round =>
        obtain ⟨q, rfl, hq, G29_, k30_, k31_, k32_, k33_⟩ := hrel
        obtain ⟨w28, rfl⟩ : ∃ x, x = wr := ⟨_, rfl⟩
        have HL34_ : Hid ((fnRow xs.length (fun i => if i < q then shareAt xs i else runTot xs (perms xs.length).length i)).length = xs.length) := (fnRow_length _ _)
        have l35_ := G29_.lt
        by_cases hlt4 : q < xs.length
        · have c36_ : w28.cell? ⟨w.heap.size, q, none⟩ = some (.int .i64 ((fnRow xs.length (fun i => if i < q then shareAt xs i else runTot xs (perms xs.length).length i)).getD q 0)) := G29_.at_ q (by rw [fnRow_length]; omega)
          have c36_i : (q : Int) < (xs.length : Int) := by omega
          have c36_j : (0 : Int) ≤ (q : Int) := by omega
          have v37_g := runDiv_rg HNB.out (q := q) (k := q) (by omega) (by omega)
          obtain ⟨v37_, hv37_⟩ : ∃ v, v = (fnRow xs.length (fun i => if i < q then shareAt xs i else runTot xs (perms xs.length).length i)).getD q 0 := ⟨_, rfl⟩
          rw [← hv37_] at c36_ v37_g
          have Hv37_ := Lib.hid hv37_
          clear hv37_
          obtain ⟨v37_g1, v37_g2⟩ := v37_g
          have hq38_a := Int.ediv_nonneg (show 0 ≤ v37_ by omega) (show 0 ≤ ((perms xs.length).length : Int) by omega)
          have hq38_b := Int.ediv_le_self ((perms xs.length).length : Int) (show 0 ≤ v37_ by omega)
          have hq38_ : IntKind.i64.wrap (v37_.tdiv ((perms xs.length).length : Int)) = v37_ / ((perms xs.length).length : Int) := by rw [Int.tdiv_eq_ediv_of_nonneg (by omega)]; exact IntWalk.i64_in _ (by omega)
          have hq38_y : (((perms xs.length).length : Int) == 0) = false := by simp only [beq_eq_false_iff_ne]; omega
          have hq38_z : (((perms xs.length).length : Int) = 0) = False := eq_false (by omega)
          have c40_ := G29_.at_ q (by rw [fnRow_length]; omega)
          have c40_f := G29_.soft q (by rw [fnRow_length]; omega)
          have c40_i : (q : Int) < (xs.length : Int) := by omega
          have c40_j : (0 : Int) ≤ (q : Int) := by omega
          clear c40_
          have hC39_ := Chg.setCell (lo := w.heap.size) (hi := w.heap.size + 1) w28 (p := ⟨w.heap.size, q, none⟩) ⟨Nat.le_refl _, Nat.lt_succ_self _⟩ (.int .i64 (v37_ / ((perms xs.length).length : Int)))
          have G41_ := G29_.store q (v37_ / ((perms xs.length).length : Int))
          have o42_ := k32_.chg hC39_ (by first | omega | (simp; omega) | simp) (by omega)
          have o43_ := k33_.chg hC39_ (by omega)
          have z44_ := hC39_.size
          try simp at z44_
          have B45_ := k30_.trans (hC39_.below (by omega) (by first | omega | (simp; omega) | simp))
          clear hC39_
          go_wp2
          go_roundw
          case rel => exact ⟨q + 1, by go_num, by omega, (by rw [← runDiv_step HNB.out (v := v37_) (by omega) Hv37_.out]; exact G41_), B45_, (by first | omega | (simp; omega) | simp), o42_, o43_⟩
          case measure => simp [intOf] <;> omega
        · obtain rfl : q = xs.length := by omega
          have hfin : sharesRow xs = fnRow xs.length (fun i => if i < xs.length then shareAt xs i else runTot xs (perms xs.length).length i) := by rw [runDiv_all, sharesRow_yes HNB.out]
          have HFIN := Lib.hid hfin
          clear hfin
          go_wp2
          go_ret
          rw [HFIN.out]
          (refine retInts_grow G29_ (by omega) ?_ k30_; rw [fnRow_length])

set_option maxRecDepth 10000 in
set_option maxHeartbeats 2000000 in
theorem specRunwayOrders_no (A : Option Addr) (c : Nat) (xs : List Int) (w : World) (lo hi : Nat) (h : Ints w lo hi A xs) (hh : hi ≤ w.heap.size) (hl : xs.length ≤ 1000000000) (hb : needB xs = false) :
    Calls Try.prog 30 #[.slice A xs.length c] w (RetInts w (sharesRow xs)) := by
  have HNB := Lib.hid hb
  clear hb
  go_enter Try.func30, Try.ntmps30
  go_upto_region 2 with (at_make; (refine make_gr (by rfl) _ _ (by rfl) (n := xs.length) (x := (xs.length : Int)) (by omega) (by rfl) (by rfl) (by omega) ?_; intro w1 G1_ hb2_))
  have o4_ := h.below hb2_ (by first | omega | (simp; omega) | simp)
  have z5_ := hb2_.size
  have B6_ := (Below.refl w.heap.size w).trans (hb2_.mono (by first | omega | (simp; omega) | simp))
  clear hb2_
  have l7_ := G1_.lt
  have HL8_ : Hid ((List.replicate xs.length 0).length = xs.length) := List.length_replicate
  go_wp2_with fail
  refine (specNeedsOk_any A c xs _ _ _ o4_ (by omega)).mono ?_
  rintro e w' ⟨he, rfl⟩
  rw [HNB.out] at he
  subst he
  have o9_ := o4_.alloc (by first | omega | (simp; omega) | simp) (.cells #[] 3)
  have o10_ := G1_.alloc (.cells #[] 3)
  have B11_ := B6_.alloc (by first | omega | (simp; omega) | simp) (.cells #[] 3)
  have G12_ : Grow (w1.alloc (.cells #[] 3)) (w1.heap.size) 0 ([] : List Int) := by have e := grow_lit w1 ([] : List Int) (by simp); (try simp only [hsz] at e); exact e
  have l13_ := G12_.lt
  have HL14_ : Hid (([] : List Int).length = 0) := rfl
  have hfin : sharesRow xs = ([] : List Int) := by rw [sharesRow, if_neg (by rw [HNB.out]; simp)]
  have HFIN := Lib.hid hfin
  clear hfin
  go_wp2
  go_ret
  rw [HFIN.out]
  (refine retInts_grow G12_ (by omega) ?_ B11_; rfl)

theorem specRunwayOrders_any (A : Option Addr) (c : Nat) (xs : List Int) (w : World) (lo hi : Nat) (h : Ints w lo hi A xs) (hh : hi ≤ w.heap.size) (hl : xs.length ≤ 1000000000) :
    Calls Try.prog 30 #[.slice A xs.length c] w (RetInts w (sharesRow xs)) := by
  by_cases hb : needB xs = true
  · exact specRunwayOrders_yes A c xs w lo hi h hh hl hb
  · exact specRunwayOrders_no A c xs w lo hi h hh hl (by simpa using hb)

/-- Each of the first k payments may be; none of the first sets pays too much. -/
def PayTo (ys : List Int) (k : Nat) : Prop := ∀ j, j < k → 0 ≤ ys.getD j 0 ∧ ys.getD j 0 ≤ 576
theorem PayTo.zero (ys : List Int) : PayTo ys 0 := fun _ h => absurd h (by omega)
theorem PayTo.more {ys : List Int} {k : Nat} (h : PayTo ys k) (e : 0 ≤ ys.getD k 0 ∧ ys.getD k 0 ≤ 576) : PayTo ys (k + 1) := fun j hj => by
  rcases Nat.lt_or_ge j k with q | q
  · exact h j q
  · obtain rfl : j = k := by omega
    exact e
def SetsTo (xs ys : List Int) (m : Nat) : Prop := ∀ s : Nat, s < m → inSum ys (s : Int) ys.length ≤ 48 * costTo xs (s : Int) xs.length
theorem SetsTo.zero (xs ys : List Int) : SetsTo xs ys 0 := fun _ h => absurd h (by omega)
theorem SetsTo.more {xs ys : List Int} {m : Nat} (h : SetsTo xs ys m) (e : inSum ys (m : Int) ys.length ≤ 48 * costTo xs (m : Int) xs.length) : SetsTo xs ys (m + 1) := fun s hs => by
  rcases Nat.lt_or_ge s m with q | q
  · exact h s q
  · obtain rfl : s = m := by omega
    exact e
theorem pay_bd {ys : List Int} (h : PayTo ys ys.length) : ∀ k, k < ys.length → -2400 ≤ ys.getD k 0 ∧ ys.getD k 0 ≤ 2400 := fun k hk => by have e := h k hk; omega
theorem pay_small {ys : List Int} (h4 : ys.length ≤ 4) (h : PayTo ys ys.length) : Small ys := ⟨by omega, fun y hy => by
  obtain ⟨j, hj, rfl⟩ := List.getElem_of_mem hy
  have e := h j hj; rw [getD_of_lt ys j hj] at e; omega⟩
theorem payB_no {xs ys : List Int} (h : ¬ payB xs ys = true) : payB xs ys = false := by simpa using h
theorem pow_nat {n m : Nat} (h : (m : Int) < 2 ^ n) : m < 2 ^ n := by
  have e : ((2 ^ n : Nat) : Int) = (2 : Int) ^ n := by rw [Int.natCast_pow]; rfl
  omega
theorem pow_nat_ge {n m : Nat} (h : ¬ (m : Int) < 2 ^ n) : 2 ^ n ≤ m := by
  have e : ((2 ^ n : Nat) : Int) = (2 : Int) ^ n := by rw [Int.natCast_pow]; rfl
  omega
theorem payB_yes {xs ys : List Int} {m : Nat} (h : needB xs = true) (hl : ys.length = xs.length) (hp : PayTo ys ys.length) (hs : SetsTo xs ys m) (hm : ¬ (m : Int) < 2 ^ ys.length) (ht : ys.sum = 48 * costTo xs (2 ^ ys.length - 1) xs.length) : payB xs ys = true := by
  have hm2 := pow_nat_ge hm
  refine (payB_iff _ _).2 ⟨h, hl, fun y hy => ?_, by rw [← hl]; rw [hl] at ht ⊢; exact ht, fun s q => ?_⟩
  · obtain ⟨j, hj, rfl⟩ := List.mem_iff_getElem.1 hy
    have e := hp j hj; rwa [getD_of_lt ys j hj] at e
  · rw [← hl] at q
    have e := hs s (by omega)
    rwa [show inSum ys (s : Int) ys.length = inSum ys (s : Int) xs.length from by rw [hl]] at e
theorem payB_at {xs ys : List Int} (h : payB xs ys = true) (k : Nat) : 0 ≤ ys.getD k 0 ∧ ys.getD k 0 ≤ 576 := by
  have e := (payB_iff _ _).1 h
  by_cases hk : k < ys.length
  · rw [getD_of_lt ys k hk]; exact e.2.2.1 _ (List.getElem_mem hk)
  · rw [getD_far ys (by omega)]; omega
theorem payB_set {xs ys : List Int} (h : payB xs ys = true) {m : Nat} (hm : (m : Int) < 2 ^ ys.length) : inSum ys (m : Int) ys.length ≤ 48 * costTo xs (m : Int) xs.length := by
  have e := (payB_iff _ _).1 h
  have e2 := pow_nat hm
  rw [e.2.1] at e2 ⊢
  exact e.2.2.2.2 m e2
theorem payB_tot {xs ys : List Int} (h : payB xs ys = true) : ys.sum = 48 * costTo xs (2 ^ ys.length - 1) xs.length := by
  have e := (payB_iff _ _).1 h
  rw [e.2.1]; exact e.2.2.2.1

end Go.Proofs.Ytbegdcnljafloaa
