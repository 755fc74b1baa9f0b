/-
  The law of SurplusOf returns true for every code, and writes nothing that was there. No condition.
-/
import Derived.Test.YtpdlppmkjkbboaaGA
import Derived.Test.YtpdlppmkjkbboaaDraw9
import Derived.Test.YtpdlppmkjkbboaaGridB
import Derived.Test.YtpdlppmkjkbboaaGame9I
import Derived.Test.YtpdlppmkjkbboaaGC
import Derived.Test.YtpdlppmkjkbboaaFx
import Derived.Deep.RegionHeld3
namespace Go.Proofs.Ytpdlppmkjkbboaa
open Go.RowKit

set_option maxRecDepth 10000 in
set_option maxHeartbeats 2000000 in
theorem fnSurplusOf_walk (A0 : Option Addr) (c0 : Nat) (bs : List Int) (w : World) (h0 : Bytes w w.heap.size A0 bs) (hl : bs.length ≤ 1048576) (hc0 : bs.length ≤ c0) :
    Calls Try.prog 6 #[.slice A0 bs.length c0] w fun e w' => e = .returned (.bool true) ∧ Below w.heap.size w w' := by
  have hlm : bs.length ≤ 9223372036854775807 := by omega
  go_enter Try.func6, Try.ntmps6
  have Htrue : Hid True := trivial
  have hc0u := hc0
  have h0u := h0
  have hlmu := hlm
  go_wp2_with fail
  refine (drawSurplusOf_any A0 c0 bs _ (h0.more (by first | omega | (simp; omega) | simp)) hlm hc0).mono ?_
  rintro e w1 ⟨A3_, c4_, B, hB4, hB6, rfl, Gd5_, hb2_⟩
  have o6_ := h0.below hb2_ (by first | omega | (simp; omega) | simp)
  have z7_ := hb2_.size
  have B8_ := (Below.refl w.heap.size w).trans (hb2_.mono (by first | omega | (simp; omega) | simp))
  clear hb2_
  have HB6 := Lib.hid hB6
  clear hB6
  go_wp2_with fail
  refine (implSurplusOf_any A3_ c4_ B _ _ _ Gd5_.grid (by first | omega | (simp; omega) | simp) (by omega)).mono ?_
  rintro e w9 ⟨he, hb9_⟩
  obtain ⟨v10_, hv10_⟩ : ∃ v, surplusV B = v := ⟨_, rfl⟩
  rw [hv10_] at he
  subst he
  have v10_g := surplusV_rg B
  rw [hv10_] at v10_g
  obtain ⟨v10_g1, v10_g2⟩ := v10_g
  have Hv10_ := Lib.hid hv10_
  clear hv10_
  have o11_ := o6_.below hb9_ (by first | omega | (simp; omega) | simp)
  have o12_ := Gd5_.below hb9_ (by first | omega | (simp; omega) | simp)
  have z13_ := hb9_.size
  have B14_ := B8_.trans (hb9_.mono (by first | omega | (simp; omega) | simp))
  clear hb9_
  go_wp2_with fail
  refine (specSurplusOf_any A3_ c4_ B _ _ _ o12_.grid (by first | omega | (simp; omega) | simp) (by omega)).mono ?_
  rintro e w15 ⟨he, hb15_⟩
  rw [Hv10_.out] at he
  subst he
  have o16_ := o11_.below hb15_ (by first | omega | (simp; omega) | simp)
  have o17_ := o12_.below hb15_ (by first | omega | (simp; omega) | simp)
  have z18_ := hb15_.size
  have B19_ := B14_.trans (hb15_.mono (by first | omega | (simp; omega) | simp))
  clear hb15_
  by_cases h20_ : bidB B = true
  · have H20_ := Lib.hid h20_
    clear h20_
    have HBO := Lib.hid H20_.out
    have hbd := bidB_bd HBO.out
    obtain ⟨hB2, hB4', hT4⟩ := hbd
    have HTL := Lib.hid (takersRow_len HBO.out)
    have htl1 : (takersRow B).length ≤ things B := by have e := HTL.out; omega
    have htl2 : things B ≤ (takersRow B).length := by have e := HTL.out; omega
    have HFL : Hid ((fairRow B).length = B.length) := by show _ = _; rw [fairRow_yes HBO.out, fnRow_length]
    have hfl1 : (fairRow B).length ≤ B.length := by have e := HFL.out; omega
    have hfl2 : B.length ≤ (fairRow B).length := by have e := HFL.out; omega
    have HPL : Hid ((paidRow B).length = B.length) := by show _ = _; rw [paidRow, if_pos HBO.out, fnRow_length]
    have hpl1 : (paidRow B).length ≤ B.length := by have e := HPL.out; omega
    have hpl2 : B.length ≤ (paidRow B).length := by have e := HPL.out; omega
    have HEL : Hid ((endRow B).length = B.length) := by show _ = _; rw [endRow, if_pos HBO.out, fnRow_length]
    have hel1 : (endRow B).length ≤ B.length := by have e := HEL.out; omega
    have hel2 : B.length ≤ (endRow B).length := by have e := HEL.out; omega
    go_wp2_with fail
    refine (specBidsOk_any A3_ c4_ B _ _ _ o17_.grid (by first | omega | (simp; omega) | simp) (by omega)).mono ?_
    rintro e w21 ⟨he, hb21_⟩
    rw [H20_.out] at he
    subst he
    have o22_ := o16_.below hb21_ (by first | omega | (simp; omega) | simp)
    have o23_ := o17_.below hb21_ (by first | omega | (simp; omega) | simp)
    have z24_ := hb21_.size
    have B25_ := B19_.trans (hb21_.mono (by first | omega | (simp; omega) | simp))
    clear hb21_
    go_wp2
    go_loopw [5, 6] (fun sm kk wr => ∃ k : Nat, ∃ b : Bool, sm = .bool b ∧ kk = .int .i64 k ∧ (k ≤ B.length) ∧ (AllSame B k b) ∧ Below w.heap.size w wr ∧ w21.heap.size ≤ wr.heap.size ∧ Bytes wr (w.heap.size) A0 bs ∧ GridS wr (w.heap.size) (w1.heap.size) A3_ B) (fun sm kk _ => B.length - (intOf kk).toNat)
    case atStart => exact ⟨0, true, rfl, rfl, Nat.zero_le _, AllSame.zero B, B25_, (by first | omega | (simp; omega) | simp), o22_, o23_⟩
    case round =>
      obtain ⟨k, b, rfl, rfl, hk, hsm, k27_, k28_, k29_, k30_⟩ := hrel
      obtain ⟨w26, rfl⟩ : ∃ x, x = wr := ⟨_, rfl⟩
      have HSM := Lib.hid hsm
      clear hsm
      by_cases hlt0 : k < B.length
      · by_cases h31_ : b = true
        · obtain rfl : b = true := h31_
          obtain ⟨b32_, f33_, rfl, _, b32_h, -⟩ := k30_ (by omega)
          obtain ⟨b40_, f41_, d35_, c36_, F37_, rm39_⟩ := k30_.at_ k (by omega)
          obtain ⟨y38_, hy38_⟩ : ∃ y_, B.getD k [] = y_ := ⟨_, rfl⟩
          rw [hy38_] at c36_ F37_ rm39_
          have qy38_ := row_th HBO.out (k := k) (by omega) hy38_
          obtain ⟨qy38_a, qy38_b⟩ := qy38_
          have Hy38_ := Lib.hid hy38_
          clear hy38_
          have c36_ : w26.cell? ⟨b32_, f33_ + k, none⟩ = some (.slice (some ⟨b40_, f41_, none⟩) y38_.length d35_) := c36_
          have c36_i : (k : Int) < (B.length : Int) := by omega
          have c36_j : (0 : Int) ≤ (k : Int) := by omega
          obtain ⟨b48_, f49_, d43_, c44_, F45_, rm47_⟩ := k30_.at_ 0 (by omega)
          obtain ⟨y46_, hy46_⟩ : ∃ y_, B.getD 0 [] = y_ := ⟨_, rfl⟩
          rw [hy46_] at c44_ F45_ rm47_
          have qy46_ := row_th HBO.out (k := 0) (by omega) hy46_
          obtain ⟨qy46_a, qy46_b⟩ := qy46_
          have Hy46_ := Lib.hid hy46_
          clear hy46_
          have c44_ : w26.cell? ⟨b32_, f33_, none⟩ = some (.slice (some ⟨b48_, f49_, none⟩) y46_.length d43_) := c44_
          have c44_i : 0 < (B.length : Int) := by omega
          have c44_j : (0 : Int) ≤ 0 := by omega
          have c44_n : 0 < B.length := by omega
          by_cases h50_ : y38_ = y46_
          · have H50_ := Lib.hid h50_
            clear h50_
            have g57_ : w.heap.size ≤ w26.heap.size := (by first | omega | (simp; omega) | simp)
            have g58_ : w1.heap.size ≤ w26.heap.size := (by first | omega | (simp; omega) | simp)
            have g59_ : w1.heap.size ≤ w26.heap.size := (by first | omega | (simp; omega) | simp)
            have g60_ : w1.heap.size ≤ w26.heap.size := (by first | omega | (simp; omega) | simp)
            have g61_ : b32_ < w26.heap.size := (by first | omega | (simp; omega) | simp)
            have g62_ : b32_ < w26.heap.size := (by first | omega | (simp; omega) | simp)
            have g63_ : w.heap.size ≤ w26.heap.size := (by first | omega | (simp; omega) | simp)
            go_wp2_with fail
            refine wp_region_held_drew (S := (fun w' : World => Below w.heap.size w w' ∧ w26.heap.size ≤ w'.heap.size ∧ Bytes w' (w.heap.size) A0 bs ∧ GridS w' (w.heap.size) (w1.heap.size) (some ⟨b32_, f33_, none⟩) B ∧ Ints w' (w.heap.size) (w1.heap.size) (some ⟨b40_, f41_, none⟩) y38_ ∧ Ints w' (w.heap.size) (w1.heap.size) (some ⟨b48_, f49_, none⟩) y46_ ∧ w'.cell? ⟨b32_, f33_ + k, none⟩ = some (.slice (some ⟨b40_, f41_, none⟩) y38_.length d35_) ∧ w'.cell? ⟨b32_, f33_, none⟩ = some (.slice (some ⟨b48_, f49_, none⟩) y46_.length d43_) ∧ w26.heap.size ≤ w'.heap.size)) (by kernel_rfl) ⟨k27_.drew, by exact (by first | omega | (simp; omega) | simp), k29_, k30_, F37_, F45_, c36_, c44_, Nat.le_refl _⟩ (fun hHeld => ?_)
            refine wpAnyH_take (i := 0) (oi := ?oi1) (v := ?vv1) ?hi1 ?hs1 ?hf1 ?ha1 ?hq1 ?hy1 hHeld ?hr1
            case hi1 => (simp only [List.getElem?_toArray, List.getElem?_cons_zero]; exact rfl)
            case hs1 => kernel_rfl
            case hf1 => kernel_rfl
            case ha1 => kernel_rfl
            case hq1 => exact fun _ _ _ h => h
            case hy1 =>
              refine Or.inl ⟨by rfl, ?_⟩
              intro w' hSw
              try dsimp only at hSw
              go_simp
              first | done | with_reducible rfl
            simp only [Act.put, List.setIfInBounds_toArray, List.set_cons_succ, List.set_cons_zero]
            refine wpAnyH_take (i := 1) (oi := ?oi2) (v := ?vv2) ?hi2 ?hs2 ?hf2 ?ha2 ?hq2 ?hy2 hHeld ?hr2
            case hi2 => (simp only [List.getElem?_toArray, List.getElem?_cons_succ, List.getElem?_cons_zero]; exact rfl)
            case hs2 => kernel_rfl
            case hf2 => kernel_rfl
            case ha2 => kernel_rfl
            case hq2 => exact fun _ _ _ h => h
            case hy2 =>
              refine Or.inl ⟨by rfl, ?_⟩
              intro w' hSw
              try dsimp only at hSw
              go_simp
              first | done | with_reducible rfl
            simp only [Act.put, List.setIfInBounds_toArray, List.set_cons_succ, List.set_cons_zero]
            refine wpAnyH_take (i := 2) (oi := ?oi3) (v := ?vv3) ?hi3 ?hs3 ?hf3 ?ha3 ?hq3 ?hy3 hHeld ?hr3
            case hi3 => (simp only [List.getElem?_toArray, List.getElem?_cons_succ, List.getElem?_cons_zero]; exact rfl)
            case hs3 => kernel_rfl
            case hf3 => kernel_rfl
            case ha3 => kernel_rfl
            case hq3 => exact fun _ _ _ h => h
            case hy3 =>
              refine Or.inl ⟨by rfl, ?_⟩
              intro w' hSw
              try dsimp only at hSw
              go_simp
              first | done | with_reducible rfl
            simp only [Act.put, List.setIfInBounds_toArray, List.set_cons_succ, List.set_cons_zero]
            refine wpAnyH_take (i := 3) (oi := ?oi4) (v := ?vv4) ?hi4 ?hs4 ?hf4 ?ha4 ?hq4 ?hy4 hHeld ?hr4
            case hi4 => (simp only [List.getElem?_toArray, List.getElem?_cons_succ, List.getElem?_cons_zero]; exact rfl)
            case hs4 => kernel_rfl
            case hf4 => kernel_rfl
            case ha4 => kernel_rfl
            case hq4 => exact fun _ _ _ h => h
            case hy4 =>
              refine Or.inl ⟨by rfl, ?_⟩
              intro w' hSw
              try dsimp only at hSw
              go_simp
              first | done | with_reducible rfl
            simp only [Act.put, List.setIfInBounds_toArray, List.set_cons_succ, List.set_cons_zero]
            refine wpAnyH_take (i := 4) (oi := ?oi5) (v := ?vv5) ?hi5 ?hs5 ?hf5 ?ha5 ?hq5 ?hy5 hHeld ?hr5
            case hi5 => (simp only [List.getElem?_toArray, List.getElem?_cons_succ, List.getElem?_cons_zero]; exact rfl)
            case hs5 => kernel_rfl
            case hf5 => kernel_rfl
            case ha5 => kernel_rfl
            case hq5 => exact fun _ _ _ h => h
            case hy5 =>
              refine Or.inl ⟨by rfl, ?_⟩
              intro w' hSw
              try dsimp only at hSw
              go_simp
              first | done | with_reducible rfl
            simp only [Act.put, List.setIfInBounds_toArray, List.set_cons_succ, List.set_cons_zero]
            refine wpAnyH_take (i := 5) (oi := ?oi6) (v := ?vv6) ?hi6 ?hs6 ?hf6 ?ha6 ?hq6 ?hy6 hHeld ?hr6
            case hi6 => (simp only [List.getElem?_toArray, List.getElem?_cons_succ, List.getElem?_cons_zero]; exact rfl)
            case hs6 => kernel_rfl
            case hf6 => kernel_rfl
            case ha6 => kernel_rfl
            case hq6 => exact fun _ _ _ h => h
            case hy6 =>
              refine Or.inl ⟨by rfl, ?_⟩
              intro w' hSw
              try dsimp only at hSw
              go_simp
              first | done | with_reducible rfl
            simp only [Act.put, List.setIfInBounds_toArray, List.set_cons_succ, List.set_cons_zero]
            refine wpAnyH_take (i := 6) (oi := ?oi7) (v := ?vv7) ?hi7 ?hs7 ?hf7 ?ha7 ?hq7 ?hy7 hHeld ?hr7
            case hi7 => (simp only [List.getElem?_toArray, List.getElem?_cons_succ, List.getElem?_cons_zero]; exact rfl)
            case hs7 => kernel_rfl
            case hf7 => kernel_rfl
            case ha7 => kernel_rfl
            case hq7 => exact fun _ _ _ h => h
            case hy7 =>
              refine Or.inl ⟨by rfl, ?_⟩
              intro w' hSw
              try dsimp only at hSw
              go_simp
              first | done | with_reducible rfl
            simp only [Act.put, List.setIfInBounds_toArray, List.set_cons_succ, List.set_cons_zero]
            refine wpAnyH_take (i := 7) (oi := ?oi8) (v := ?vv8) ?hi8 ?hs8 ?hf8 ?ha8 ?hq8 ?hy8 hHeld ?hr8
            case hi8 => (simp only [List.getElem?_toArray, List.getElem?_cons_succ, List.getElem?_cons_zero]; exact rfl)
            case hs8 => kernel_rfl
            case hf8 => kernel_rfl
            case ha8 => kernel_rfl
            case hq8 => exact fun _ _ _ h => h
            case hy8 =>
              refine Or.inl ⟨by rfl, ?_⟩
              intro w' hSw
              try dsimp only at hSw
              go_simp
              first | done | with_reducible rfl
            simp only [Act.put, List.setIfInBounds_toArray, List.set_cons_succ, List.set_cons_zero]
            refine wpAnyH_take (i := 8) (oi := ?oi9) (v := ?vv9) ?hi9 ?hs9 ?hf9 ?ha9 ?hq9 ?hy9 hHeld ?hr9
            case hi9 => (simp only [List.getElem?_toArray, List.getElem?_cons_succ, List.getElem?_cons_zero]; exact rfl)
            case hs9 => kernel_rfl
            case hf9 => kernel_rfl
            case ha9 => kernel_rfl
            case hq9 => exact fun _ _ _ h => h
            case hy9 =>
              refine Or.inl ⟨by rfl, ?_⟩
              intro w' hSw
              try dsimp only at hSw
              go_simp
              first | done | with_reducible rfl
            simp only [Act.put, List.setIfInBounds_toArray, List.set_cons_succ, List.set_cons_zero]
            refine wpAnyH_ready (rs := [9]) (by kernel_rfl) (by simp) ?_
            refine AllReadyH.cons rfl (fun K hK => ?_) AllReadyH.nil
            go_simp
            go_at_call 21
            obtain ⟨BB, zz, k51_, k52_, k53_, k54_, q55_, q56_, zw⟩ := hHeld
            (with_reducible refine (sameInts_yes (some ⟨b40_, f41_, none⟩) (some ⟨b48_, f49_, none⟩) d35_ d43_ y38_ y46_ _ _ _ _ _ k53_ k54_ (by omega) H50_.out).mono ?_)
            rintro e w64 ⟨rfl, hb9⟩
            refine hK.out _ _ ⟨BB.trans (hb9.mono (by omega)), Nat.le_trans zz hb9.size, k51_.below hb9 (by first | omega | (simp; omega) | simp), k52_.below hb9 (by first | omega | (simp; omega) | simp), k53_.below hb9 (by first | omega | (simp; omega) | simp), k54_.below hb9 (by first | omega | (simp; omega) | simp), (hb9.cell (by show b32_ < _; omega)).trans q55_, (hb9.cell (by show b32_ < _; omega)).trans q56_, Nat.le_trans zw hb9.size⟩ (fun hHeld => ?_)
            clear hb9 zw q56_ q55_ k54_ k53_ k52_ k51_ zz BB
            clear hK K
            try simp only [Act.put, List.setIfInBounds_toArray, List.set_cons_zero, List.set_cons_succ]
            refine wpAnyH_take (i := 10) (oi := ?oi10) (v := ?vv10) ?hi10 ?hs10 ?hf10 ?ha10 ?hq10 ?hy10 hHeld ?hr10
            case hi10 => (simp only [List.getElem?_toArray, List.getElem?_cons_succ, List.getElem?_cons_zero]; exact rfl)
            case hs10 => kernel_rfl
            case hf10 => kernel_rfl
            case ha10 => kernel_rfl
            case hq10 => exact fun _ _ _ h => h
            case hy10 =>
              refine Or.inl ⟨by rfl, ?_⟩
              intro w' hSw
              try dsimp only at hSw
              go_simp
              first | done | with_reducible rfl
            simp only [Act.put, List.setIfInBounds_toArray, List.set_cons_succ, List.set_cons_zero]
            refine wpAnyH_take (i := 11) (oi := ?oi11) (v := ?vv11) ?hi11 ?hs11 ?hf11 ?ha11 ?hq11 ?hy11 hHeld ?hr11
            case hi11 => (simp only [List.getElem?_toArray, List.getElem?_cons_succ, List.getElem?_cons_zero]; exact rfl)
            case hs11 => kernel_rfl
            case hf11 => kernel_rfl
            case ha11 => kernel_rfl
            case hq11 => exact fun _ _ _ h => h
            case hy11 =>
              refine Or.inl ⟨by rfl, ?_⟩
              intro w' hSw
              try dsimp only at hSw
              go_simp
              first | done | with_reducible rfl
            simp only [Act.put, List.setIfInBounds_toArray, List.set_cons_succ, List.set_cons_zero]
            refine wpAnyH_done (by kernel_rfl) ?_ _
            obtain ⟨BB, zz, k51_, k52_, k53_, k54_, q55_, q56_, zw⟩ := hHeld
            have k65_ := BB
            clear BB
            have k66_ := zz
            clear zz
            have k67_ := zw
            clear zw
            go_wp2
            go_roundw
            case rel => exact ⟨k + 1, true, rfl, by go_num, by omega, HSM.out.more (by rw [Hy38_.out, Hy46_.out]; exact H50_.out), k65_, (by first | omega | (simp; omega) | simp), k51_, k52_⟩
            case measure => simp [intOf] <;> omega
          · have H50_ := Lib.hid h50_
            clear h50_
            have g57_ : w.heap.size ≤ w26.heap.size := (by first | omega | (simp; omega) | simp)
            have g58_ : w1.heap.size ≤ w26.heap.size := (by first | omega | (simp; omega) | simp)
            have g59_ : w1.heap.size ≤ w26.heap.size := (by first | omega | (simp; omega) | simp)
            have g60_ : w1.heap.size ≤ w26.heap.size := (by first | omega | (simp; omega) | simp)
            have g61_ : b32_ < w26.heap.size := (by first | omega | (simp; omega) | simp)
            have g62_ : b32_ < w26.heap.size := (by first | omega | (simp; omega) | simp)
            have g63_ : w.heap.size ≤ w26.heap.size := (by first | omega | (simp; omega) | simp)
            go_wp2_with fail
            refine wp_region_held_drew (S := (fun w' : World => Below w.heap.size w w' ∧ w26.heap.size ≤ w'.heap.size ∧ Bytes w' (w.heap.size) A0 bs ∧ GridS w' (w.heap.size) (w1.heap.size) (some ⟨b32_, f33_, none⟩) B ∧ Ints w' (w.heap.size) (w1.heap.size) (some ⟨b40_, f41_, none⟩) y38_ ∧ Ints w' (w.heap.size) (w1.heap.size) (some ⟨b48_, f49_, none⟩) y46_ ∧ w'.cell? ⟨b32_, f33_ + k, none⟩ = some (.slice (some ⟨b40_, f41_, none⟩) y38_.length d35_) ∧ w'.cell? ⟨b32_, f33_, none⟩ = some (.slice (some ⟨b48_, f49_, none⟩) y46_.length d43_) ∧ w26.heap.size ≤ w'.heap.size)) (by kernel_rfl) ⟨k27_.drew, by exact (by first | omega | (simp; omega) | simp), k29_, k30_, F37_, F45_, c36_, c44_, Nat.le_refl _⟩ (fun hHeld => ?_)
            refine wpAnyH_take (i := 0) (oi := ?oi12) (v := ?vv12) ?hi12 ?hs12 ?hf12 ?ha12 ?hq12 ?hy12 hHeld ?hr12
            case hi12 => (simp only [List.getElem?_toArray, List.getElem?_cons_zero]; exact rfl)
            case hs12 => kernel_rfl
            case hf12 => kernel_rfl
            case ha12 => kernel_rfl
            case hq12 => exact fun _ _ _ h => h
            case hy12 =>
              refine Or.inl ⟨by rfl, ?_⟩
              intro w' hSw
              try dsimp only at hSw
              go_simp
              first | done | with_reducible rfl
            simp only [Act.put, List.setIfInBounds_toArray, List.set_cons_succ, List.set_cons_zero]
            refine wpAnyH_take (i := 1) (oi := ?oi13) (v := ?vv13) ?hi13 ?hs13 ?hf13 ?ha13 ?hq13 ?hy13 hHeld ?hr13
            case hi13 => (simp only [List.getElem?_toArray, List.getElem?_cons_succ, List.getElem?_cons_zero]; exact rfl)
            case hs13 => kernel_rfl
            case hf13 => kernel_rfl
            case ha13 => kernel_rfl
            case hq13 => exact fun _ _ _ h => h
            case hy13 =>
              refine Or.inl ⟨by rfl, ?_⟩
              intro w' hSw
              try dsimp only at hSw
              go_simp
              first | done | with_reducible rfl
            simp only [Act.put, List.setIfInBounds_toArray, List.set_cons_succ, List.set_cons_zero]
            refine wpAnyH_take (i := 2) (oi := ?oi14) (v := ?vv14) ?hi14 ?hs14 ?hf14 ?ha14 ?hq14 ?hy14 hHeld ?hr14
            case hi14 => (simp only [List.getElem?_toArray, List.getElem?_cons_succ, List.getElem?_cons_zero]; exact rfl)
            case hs14 => kernel_rfl
            case hf14 => kernel_rfl
            case ha14 => kernel_rfl
            case hq14 => exact fun _ _ _ h => h
            case hy14 =>
              refine Or.inl ⟨by rfl, ?_⟩
              intro w' hSw
              try dsimp only at hSw
              go_simp
              first | done | with_reducible rfl
            simp only [Act.put, List.setIfInBounds_toArray, List.set_cons_succ, List.set_cons_zero]
            refine wpAnyH_take (i := 3) (oi := ?oi15) (v := ?vv15) ?hi15 ?hs15 ?hf15 ?ha15 ?hq15 ?hy15 hHeld ?hr15
            case hi15 => (simp only [List.getElem?_toArray, List.getElem?_cons_succ, List.getElem?_cons_zero]; exact rfl)
            case hs15 => kernel_rfl
            case hf15 => kernel_rfl
            case ha15 => kernel_rfl
            case hq15 => exact fun _ _ _ h => h
            case hy15 =>
              refine Or.inl ⟨by rfl, ?_⟩
              intro w' hSw
              try dsimp only at hSw
              go_simp
              first | done | with_reducible rfl
            simp only [Act.put, List.setIfInBounds_toArray, List.set_cons_succ, List.set_cons_zero]
            refine wpAnyH_take (i := 4) (oi := ?oi16) (v := ?vv16) ?hi16 ?hs16 ?hf16 ?ha16 ?hq16 ?hy16 hHeld ?hr16
            case hi16 => (simp only [List.getElem?_toArray, List.getElem?_cons_succ, List.getElem?_cons_zero]; exact rfl)
            case hs16 => kernel_rfl
            case hf16 => kernel_rfl
            case ha16 => kernel_rfl
            case hq16 => exact fun _ _ _ h => h
            case hy16 =>
              refine Or.inl ⟨by rfl, ?_⟩
              intro w' hSw
              try dsimp only at hSw
              go_simp
              first | done | with_reducible rfl
            simp only [Act.put, List.setIfInBounds_toArray, List.set_cons_succ, List.set_cons_zero]
            refine wpAnyH_take (i := 5) (oi := ?oi17) (v := ?vv17) ?hi17 ?hs17 ?hf17 ?ha17 ?hq17 ?hy17 hHeld ?hr17
            case hi17 => (simp only [List.getElem?_toArray, List.getElem?_cons_succ, List.getElem?_cons_zero]; exact rfl)
            case hs17 => kernel_rfl
            case hf17 => kernel_rfl
            case ha17 => kernel_rfl
            case hq17 => exact fun _ _ _ h => h
            case hy17 =>
              refine Or.inl ⟨by rfl, ?_⟩
              intro w' hSw
              try dsimp only at hSw
              go_simp
              first | done | with_reducible rfl
            simp only [Act.put, List.setIfInBounds_toArray, List.set_cons_succ, List.set_cons_zero]
            refine wpAnyH_take (i := 6) (oi := ?oi18) (v := ?vv18) ?hi18 ?hs18 ?hf18 ?ha18 ?hq18 ?hy18 hHeld ?hr18
            case hi18 => (simp only [List.getElem?_toArray, List.getElem?_cons_succ, List.getElem?_cons_zero]; exact rfl)
            case hs18 => kernel_rfl
            case hf18 => kernel_rfl
            case ha18 => kernel_rfl
            case hq18 => exact fun _ _ _ h => h
            case hy18 =>
              refine Or.inl ⟨by rfl, ?_⟩
              intro w' hSw
              try dsimp only at hSw
              go_simp
              first | done | with_reducible rfl
            simp only [Act.put, List.setIfInBounds_toArray, List.set_cons_succ, List.set_cons_zero]
            refine wpAnyH_take (i := 7) (oi := ?oi19) (v := ?vv19) ?hi19 ?hs19 ?hf19 ?ha19 ?hq19 ?hy19 hHeld ?hr19
            case hi19 => (simp only [List.getElem?_toArray, List.getElem?_cons_succ, List.getElem?_cons_zero]; exact rfl)
            case hs19 => kernel_rfl
            case hf19 => kernel_rfl
            case ha19 => kernel_rfl
            case hq19 => exact fun _ _ _ h => h
            case hy19 =>
              refine Or.inl ⟨by rfl, ?_⟩
              intro w' hSw
              try dsimp only at hSw
              go_simp
              first | done | with_reducible rfl
            simp only [Act.put, List.setIfInBounds_toArray, List.set_cons_succ, List.set_cons_zero]
            refine wpAnyH_take (i := 8) (oi := ?oi20) (v := ?vv20) ?hi20 ?hs20 ?hf20 ?ha20 ?hq20 ?hy20 hHeld ?hr20
            case hi20 => (simp only [List.getElem?_toArray, List.getElem?_cons_succ, List.getElem?_cons_zero]; exact rfl)
            case hs20 => kernel_rfl
            case hf20 => kernel_rfl
            case ha20 => kernel_rfl
            case hq20 => exact fun _ _ _ h => h
            case hy20 =>
              refine Or.inl ⟨by rfl, ?_⟩
              intro w' hSw
              try dsimp only at hSw
              go_simp
              first | done | with_reducible rfl
            simp only [Act.put, List.setIfInBounds_toArray, List.set_cons_succ, List.set_cons_zero]
            refine wpAnyH_ready (rs := [9]) (by kernel_rfl) (by simp) ?_
            refine AllReadyH.cons rfl (fun K hK => ?_) AllReadyH.nil
            go_simp
            go_at_call 21
            obtain ⟨BB, zz, k51_, k52_, k53_, k54_, q55_, q56_, zw⟩ := hHeld
            (with_reducible refine (sameInts_no (some ⟨b40_, f41_, none⟩) (some ⟨b48_, f49_, none⟩) d35_ d43_ y38_ y46_ _ _ _ _ _ k53_ k54_ (by omega) (by omega) H50_.out).mono ?_)
            rintro e w64 ⟨rfl, hb9⟩
            refine hK.out _ _ ⟨BB.trans (hb9.mono (by omega)), Nat.le_trans zz hb9.size, k51_.below hb9 (by first | omega | (simp; omega) | simp), k52_.below hb9 (by first | omega | (simp; omega) | simp), k53_.below hb9 (by first | omega | (simp; omega) | simp), k54_.below hb9 (by first | omega | (simp; omega) | simp), (hb9.cell (by show b32_ < _; omega)).trans q55_, (hb9.cell (by show b32_ < _; omega)).trans q56_, Nat.le_trans zw hb9.size⟩ (fun hHeld => ?_)
            clear hb9 zw q56_ q55_ k54_ k53_ k52_ k51_ zz BB
            clear hK K
            try simp only [Act.put, List.setIfInBounds_toArray, List.set_cons_zero, List.set_cons_succ]
            refine wpAnyH_take (i := 10) (oi := ?oi21) (v := ?vv21) ?hi21 ?hs21 ?hf21 ?ha21 ?hq21 ?hy21 hHeld ?hr21
            case hi21 => (simp only [List.getElem?_toArray, List.getElem?_cons_succ, List.getElem?_cons_zero]; exact rfl)
            case hs21 => kernel_rfl
            case hf21 => kernel_rfl
            case ha21 => kernel_rfl
            case hq21 => exact fun _ _ _ h => h
            case hy21 =>
              refine Or.inl ⟨by rfl, ?_⟩
              intro w' hSw
              try dsimp only at hSw
              go_simp
              first | done | with_reducible rfl
            simp only [Act.put, List.setIfInBounds_toArray, List.set_cons_succ, List.set_cons_zero]
            refine wpAnyH_take (i := 11) (oi := ?oi22) (v := ?vv22) ?hi22 ?hs22 ?hf22 ?ha22 ?hq22 ?hy22 hHeld ?hr22
            case hi22 => (simp only [List.getElem?_toArray, List.getElem?_cons_succ, List.getElem?_cons_zero]; exact rfl)
            case hs22 => kernel_rfl
            case hf22 => kernel_rfl
            case ha22 => kernel_rfl
            case hq22 => exact fun _ _ _ h => h
            case hy22 =>
              refine Or.inl ⟨by rfl, ?_⟩
              intro w' hSw
              try dsimp only at hSw
              go_simp
              first | done | with_reducible rfl
            simp only [Act.put, List.setIfInBounds_toArray, List.set_cons_succ, List.set_cons_zero]
            refine wpAnyH_done (by kernel_rfl) ?_ _
            obtain ⟨BB, zz, k51_, k52_, k53_, k54_, q55_, q56_, zw⟩ := hHeld
            have k65_ := BB
            clear BB
            have k66_ := zz
            clear zz
            have k67_ := zw
            clear zw
            go_wp2
            go_roundw
            case rel => exact ⟨k + 1, false, rfl, by go_num, by omega, HSM.out.less (by omega) (by rw [Hy38_.out, Hy46_.out]; exact H50_.out), k65_, (by first | omega | (simp; omega) | simp), k51_, k52_⟩
            case measure => simp [intOf] <;> omega
        · obtain rfl : b = false := by simpa using h31_
          go_wp2
          go_quiet (fail)
          obtain ⟨w32, hw32⟩ : ∃ x, x = w26.drewN nq := ⟨_, rfl⟩
          have hb33_ : Below w26.heap.size w26 w32 := by rw [hw32]; exact below_drewN (Below.refl _ _) _
          rw [← hw32]
          clear hw32
          have o35_ := k29_.below hb33_ (by first | omega | (simp; omega) | simp)
          have o36_ := k30_.below hb33_ (by first | omega | (simp; omega) | simp)
          have z37_ := hb33_.size
          have B38_ := k27_.trans (hb33_.mono (by first | omega | (simp; omega) | simp))
          clear hb33_
          go_wp2
          go_roundw
          case rel => exact ⟨k + 1, false, rfl, by go_num, by omega, HSM.out.keep, B38_, (by first | omega | (simp; omega) | simp), o35_, o36_⟩
          case measure => simp [intOf] <;> omega
      · obtain rfl : k = B.length := by omega
        have h31_ : v10_ ≥ 0 := by rw [← Hv10_.out, surplusV, if_pos HBO.out]; exact surplus_nonneg ((bidB_iff B).1 HBO.out)
        have h31_d : decide (v10_ ≥ 0) = true := decide_eq_true h31_
        by_cases h32_ : b = true
        · obtain rfl : b = true := h32_
          have h33_ : v10_ = 0 := by rw [← Hv10_.out, surplusV, if_pos HBO.out]; exact (surplus_null ((bidB_iff B).1 HBO.out)).2 (HSM.out.1 rfl)
          have h33_b : (v10_ == 0) = true := by simpa using h33_
          have h33_n : (v10_ != 0) = false := by simpa using h33_
          have h33_le : v10_ ≤ 0 := by omega
          have h33_ge : 0 ≤ v10_ := by omega
          have Hh33_ := Lib.hid h33_
          clear h33_
          go_wp2_with fail
          refine (alive_any _).mono ?_
          rintro e w34 ⟨rfl, hb34_⟩
          have o35_ := k29_.below hb34_ (by first | omega | (simp; omega) | simp)
          have o36_ := k30_.below hb34_ (by first | omega | (simp; omega) | simp)
          have z37_ := hb34_.size
          have B38_ := k27_.trans (hb34_.mono (by first | omega | (simp; omega) | simp))
          clear hb34_
          go_wp2
          go_ret
          exact ⟨ret_bool (by first | exact rfl | exact h33_b.trans rfl), B38_⟩
        · obtain rfl : b = false := by simpa using h32_
          have h33_ : ¬ (v10_ = 0) := fun q => by rw [← Hv10_.out, surplusV, if_pos HBO.out] at q; obtain ⟨i, hi, hn⟩ := HSM.out.2 rfl; exact hn ((surplus_null ((bidB_iff B).1 HBO.out)).1 q i hi)
          have h33_b : (v10_ == 0) = false := by simpa using h33_
          have h33_n : (v10_ != 0) = true := by simpa using h33_
          go_wp2_with fail
          refine (alive_any _).mono ?_
          rintro e w34 ⟨rfl, hb34_⟩
          have o35_ := k29_.below hb34_ (by first | omega | (simp; omega) | simp)
          have o36_ := k30_.below hb34_ (by first | omega | (simp; omega) | simp)
          have z37_ := hb34_.size
          have B38_ := k27_.trans (hb34_.mono (by first | omega | (simp; omega) | simp))
          clear hb34_
          go_wp2
          go_ret
          exact ⟨ret_bool (by first | exact rfl | exact h33_b.trans rfl), B38_⟩
  · have H20_ : Hid (bidB B = false) := by show _ = _; simpa using h20_
    clear h20_
    go_wp2_with fail
    refine (specBidsOk_any A3_ c4_ B _ _ _ o17_.grid (by first | omega | (simp; omega) | simp) (by omega)).mono ?_
    rintro e w21 ⟨he, hb21_⟩
    rw [H20_.out] at he
    subst he
    have o22_ := o16_.below hb21_ (by first | omega | (simp; omega) | simp)
    have o23_ := o17_.below hb21_ (by first | omega | (simp; omega) | simp)
    have z24_ := hb21_.size
    have B25_ := B19_.trans (hb21_.mono (by first | omega | (simp; omega) | simp))
    clear hb21_
    have h26_ : v10_ = -1 := by rw [← Hv10_.out, surplusV, if_neg (by rw [H20_.out]; simp)]
    have h26_b : (v10_ == -1) = true := by simpa using h26_
    have h26_n : (v10_ != -1) = false := by simpa using h26_
    have h26_le : v10_ ≤ -1 := by omega
    have h26_ge : -1 ≤ v10_ := by omega
    have Hh26_ := Lib.hid h26_
    clear h26_
    go_wp2_with fail
    refine (alive_any _).mono ?_
    rintro e w27 ⟨rfl, hb27_⟩
    have o28_ := o22_.below hb27_ (by first | omega | (simp; omega) | simp)
    have o29_ := o23_.below hb27_ (by first | omega | (simp; omega) | simp)
    have z30_ := hb27_.size
    have B31_ := B25_.trans (hb27_.mono (by first | omega | (simp; omega) | simp))
    clear hb27_
    go_wp2
    go_ret
    exact ⟨ret_bool (by first | exact rfl | exact h26_b.trans rfl), B31_⟩

set_option maxRecDepth 10000 in
set_option maxHeartbeats 400000 in
theorem fnSurplusOf_big (A0 : Option Addr) (c0 : Nat) (bs : List Int) (w : World) (hl : ¬ bs.length ≤ 1048576) (hm : bs.length ≤ 9223372036854775807) :
    Calls Try.prog 6 #[.slice A0 bs.length c0] w fun e w' => e = .returned (.bool true) ∧ Below w.heap.size w w' := by
  go_enter Try.func6, Try.ntmps6
  go_wp2
  go_ret
  exact ⟨rfl, Below.refl _ _⟩

theorem fnSurplusOf_all (A0 : Option Addr) (c0 : Nat) (bs : List Int) (w : World) (h0 : Bytes w w.heap.size A0 bs) (hm : bs.length ≤ 9223372036854775807) (hc0 : bs.length ≤ c0) :
    Calls Try.prog 6 #[.slice A0 bs.length c0] w fun e w' => e = .returned (.bool true) ∧ Below w.heap.size w w' := by
  by_cases hl : bs.length ≤ 1048576
  · exact fnSurplusOf_walk A0 c0 bs w h0 hl hc0
  · exact fnSurplusOf_big A0 c0 bs w hl hm

end Go.Proofs.Ytpdlppmkjkbboaa
