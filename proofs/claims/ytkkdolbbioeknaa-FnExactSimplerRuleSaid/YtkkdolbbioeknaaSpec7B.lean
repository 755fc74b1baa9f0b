/-
  Chapter 7, the given package's functions ArrivalAwards, BringsOf, GameShares. Premises: lengths that fit.
-/
import Derived.Test.YtkkdolbbioeknaaSpec7
import Derived.BigQuiet
import Derived.Deep.Cut
namespace Go.Proofs.Ytkkdolbbioeknaa
open Go.RowKit


/-- A row by its numbers. -/
def fnRow (n : Nat) (f : Nat → Int) : List Int := (List.range n).map f
theorem fnRow_length (n : Nat) (f : Nat → Int) : (fnRow n f).length = n := by simp [fnRow]
theorem fnRow_getD {n : Nat} (f : Nat → Int) {k : Nat} (h : k < n) : (fnRow n f).getD k 0 = f k := by simp [fnRow, List.getD, h]
theorem fnRow_set {n : Nat} {f g : Nat → Int} {k : Nat} {v : Int} (h : ∀ i, i < n → ¬ i = k → f i = g i) (hv : v = g k) : (fnRow n f).set k v = fnRow n g := by
  refine List.ext_getElem (by simp [fnRow]) fun i h1 h2 => ?_
  have hi : i < n := by simpa [fnRow] using h2
  by_cases e : i = k
  · subst e; simp [fnRow, hv]
  · simp [fnRow, Ne.symm e, h i hi e]
theorem fnRow_congr {n : Nat} {f g : Nat → Int} (h : ∀ i, i < n → f i = g i) : fnRow n f = fnRow n g := by
  refine List.ext_getElem (by simp [fnRow]) fun i h1 h2 => ?_
  have hi : i < n := by simpa [fnRow] using h2
  simp [fnRow, h i hi]
theorem fnRow_zero (n : Nat) : fnRow n (fun _ => 0) = List.replicate n 0 := by simp [fnRow, List.map_const']
theorem perms_ok : ∀ n, n ≤ 4 → ∀ os ∈ perms n, os.length = n ∧ (List.range os.length).all (fun j => decide (0 ≤ os.getD j 0 ∧ os.getD j 0 < n ∧ (seenAt os n j).getD (os.getD j 0).toNat false = false)) = true
  | 0, _ => by decide +kernel
  | 1, _ => by decide +kernel
  | 2, _ => by decide +kernel
  | 3, _ => by decide +kernel
  | 4, _ => by decide +kernel
  | k + 5, h => by omega
theorem perms_order {n : Nat} (hn : n ≤ 4) {os : List Int} (h : os ∈ perms n) : orderB n os = true := by
  have e := perms_ok n hn os h
  exact order_yes e.1 ((ordTo_dec os n os.length).2 e.2)
theorem perms_in {n i : Nat} (hi : i < (perms n).length) : (perms n).getD i [] ∈ perms n := by
  simp only [List.getD, List.getElem?_eq_getElem hi, Option.getD_some]; exact List.getElem_mem hi
theorem ordTot_all {E : Int} {xs : List Int} (h1 : 1 ≤ xs.length) (h4 : xs.length ≤ 4) {k : Nat} (hk : k < xs.length) : ((perms xs.length).map fun os => (ordAw E xs os).getD k 0).sum = 48 * shp E (xs.getD k 0) (xs.eraseIdx k) 0 0 0 := by
  match xs, h1, h4, hk with
  | [a], _, _, hk => obtain rfl : k = 0 := by simpa using hk
                     exact ordTot_10
  | [a, b], _, _, hk =>
    rcases (show k = 0 ∨ k = 1 from by simp at hk; omega) with rfl | rfl
    · exact ordTot_20
    · exact ordTot_21
  | [a, b, c], _, _, hk =>
    rcases (show k = 0 ∨ k = 1 ∨ k = 2 from by simp at hk; omega) with rfl | rfl | rfl
    · exact ordTot_30
    · exact ordTot_31
    · exact ordTot_32
  | [a, b, c, d], _, _, hk =>
    rcases (show k = 0 ∨ k = 1 ∨ k = 2 ∨ k = 3 from by simp at hk; omega) with rfl | rfl | rfl | rfl
    · exact ordTot_40
    · exact ordTot_41
    · exact ordTot_42
    · exact ordTot_43
theorem perms_fac {n : Nat} (hn : n ≤ 4) : ((perms n).length : Int) = fac n := by
  rcases (show n = 0 ∨ n = 1 ∨ n = 2 ∨ n = 3 ∨ n = 4 from by omega) with rfl | rfl | rfl | rfl | rfl <;> rfl
theorem ord_mean {E : Int} {xs : List Int} (h1 : 1 ≤ xs.length) (h4 : xs.length ≤ 4) {k : Nat} (hk : k < xs.length) : ((perms xs.length).map fun os => (ordAw E xs os).getD k 0).sum / ((perms xs.length).length : Int) = arrAt E xs k := by
  rw [ordTot_all h1 h4 hk, perms_fac h4, arrAt]
  obtain ⟨e1, e2⟩ := part_fac h1 h4
  have e3 := fac_pos xs.length
  generalize shp E (xs.getD k 0) (xs.eraseIdx k) 0 0 0 = S
  generalize fac xs.length = F at *
  have e4 : 48 * S = F * (48 / F * S) := by rw [← Int.mul_assoc, Int.mul_comm F, e2]
  rw [e4, Int.mul_ediv_cancel_left _ (by omega)]
/-- What a person gets by the first m orders together. -/
def totTo (E : Int) (xs : List Int) (m i : Nat) : Int := (((perms xs.length).take m).map fun os => (ordAw E xs os).getD i 0).sum
theorem totTo_zero (E : Int) (xs : List Int) (i : Nat) : totTo E xs 0 i = 0 := by simp [totTo]
theorem totTo_succ (E : Int) (xs : List Int) {m : Nat} (h : m < (perms xs.length).length) (i : Nat) : totTo E xs (m + 1) i = totTo E xs m i + (ordAw E xs ((perms xs.length).getD m [])).getD i 0 := by
  unfold totTo
  rw [List.take_succ_eq_append_getElem h, List.map_append, List.sum_append]
  simp [List.getD, List.getElem?_eq_getElem h]
theorem totTo_all (E : Int) (xs : List Int) (i : Nat) : totTo E xs (perms xs.length).length i = ((perms xs.length).map fun os => (ordAw E xs os).getD i 0).sum := by simp [totTo]
theorem ordAw_rg {E : Int} {xs os : List Int} (h : caseOkB E xs = true) (i : Nat) : 0 ≤ (ordAw E xs os).getD i 0 ∧ (ordAw E xs os).getD i 0 ≤ 2304 := by
  by_cases hi : i < (ordAw E xs os).length
  · rw [getD_of_lt _ i hi]
    refine placed_mem (posRow E xs os) os xs.length (fun y => 0 ≤ y ∧ y ≤ 2304) (by omega) (fun x hx => ?_) os.length _ (List.getElem_mem hi)
    obtain ⟨p, _, rfl⟩ := List.mem_map.1 hx
    have e := mar_rg (E := E) (o := bef xs os p) (case_nonneg h (os.getD p 0).toNat)
    have e2 := (case_rg h (os.getD p 0).toNat).2
    unfold posAt; omega
  · rw [getD_far _ (by omega)]; omega
theorem totTo_rg {E : Int} {xs : List Int} (h : caseOkB E xs = true) (i : Nat) : ∀ m, m ≤ (perms xs.length).length → 0 ≤ totTo E xs m i ∧ totTo E xs m i ≤ 2304 * m
  | 0, _ => by rw [totTo_zero]; simp
  | m + 1, hm => by
    have e := totTo_rg h i m (by omega)
    have e2 := ordAw_rg (os := (perms xs.length).getD m []) h i
    rw [totTo_succ E xs (by omega)]
    omega
theorem ordRow_in {E : Int} {xs os : List Int} (h : caseOkB E xs = true) (ho : os ∈ perms xs.length) : ordRow E xs os = ordAw E xs os := by
  rw [ordRow, if_pos ⟨h, perms_order (caseOk_bd h).2.1 ho⟩]
/-- What ArrivalAwards returns. -/
noncomputable def arrRow (E : Int) (xs : List Int) : List Int := if caseOkB E xs = true then arr E xs else []
theorem arr_fn (E : Int) (xs : List Int) : arr E xs = fnRow xs.length (arrAt E xs) := rfl

theorem specOrderAw_in (E : Int) (A : Option Addr) (c : Nat) (xs : List Int) (D : Option Addr) (d : Nat) (os : List Int) (w : World) (lo hi : Nat) (h : Ints w lo hi A xs) (hh : hi ≤ w.heap.size) (lo' hi' : Nat) (h' : Ints w lo' hi' D os) (hh' : hi' ≤ w.heap.size) (hok : caseOkB E xs = true) (ho : os ∈ perms xs.length) {n : Nat} (hn : os.length = n) :
    Calls Try.prog 86 #[.agg #[.int .i64 E, .slice A xs.length c], .slice D n d] w (RetInts w (ordAw E xs os)) := by
  subst hn
  have hb := caseOk_bd hok
  have e := specOrderAwards_any E A c xs D d os w lo hi h hh (by omega) lo' hi' h' hh' (by have e := perms_len xs.length (by omega) os ho; omega)
  rwa [ordRow_in hok ho] at e

theorem mid_rg {E : Int} {xs : List Int} (h : caseOkB E xs = true) {m j k : Nat} (hm : m < (perms xs.length).length) (hk : k < xs.length) : 0 ≤ (fnRow xs.length (fun i => if i < j then totTo E xs (m + 1) i else totTo E xs m i)).getD k 0 ∧ (fnRow xs.length (fun i => if i < j then totTo E xs (m + 1) i else totTo E xs m i)).getD k 0 ≤ 60000 := by
  have hb := caseOk_bd h
  have hp := perms_few xs.length (by omega)
  rw [fnRow_getD _ hk]
  have e1 := totTo_rg h k m (by omega)
  have e2 := totTo_rg h k (m + 1) (by omega)
  split <;> omega
theorem div_rg {E : Int} {xs : List Int} (h : caseOkB E xs = true) {q k : Nat} (hk : k < xs.length) (hq : q ≤ k) : 0 ≤ (fnRow xs.length (fun i => if i < q then arrAt E xs i else totTo E xs (perms xs.length).length i)).getD k 0 ∧ (fnRow xs.length (fun i => if i < q then arrAt E xs i else totTo E xs (perms xs.length).length i)).getD k 0 ≤ 60000 := by
  have hb := caseOk_bd h
  have hp := perms_few xs.length (by omega)
  rw [fnRow_getD _ hk]
  have e1 := totTo_rg h k _ (Nat.le_refl _)
  rw [if_neg (by omega)]
  omega

set_option maxRecDepth 10000 in
set_option maxHeartbeats 1000000 in
theorem specArrivalAwards_yes (E : Int) (A : Option Addr) (c : Nat) (xs : List Int) (w : World) (lo hi : Nat) (h : Ints w lo hi A xs) (hh : hi ≤ w.heap.size) (hl : xs.length ≤ 1152921504606846976) (hok : caseOkB E xs = true) :
    Calls Try.prog 69 #[.agg #[.int .i64 E, .slice A xs.length c]] w (RetInts w (arrRow E xs)) := by
  have HCB := Lib.hid hok
  clear hok
  have hbd := caseOk_bd HCB.out
  have hpf := perms_few xs.length (by omega)
  obtain ⟨hpf1, hpf2⟩ := hpf
  go_enter Try.func69, Try.ntmps69
  have o1_ := h.alloc (by first | omega | (simp; omega) | simp) (.cells #[.int .i64 E, .slice A xs.length c] 28)
  have B2_ := (Below.refl w.heap.size w).alloc (Nat.le_refl _) (.cells #[.int .i64 E, .slice A xs.length c] 28)
  have a3_ : (w.alloc (.cells #[.int .i64 E, .slice A xs.length c] 28)).cell? ⟨w.heap.size, 0, none⟩ = some (.int .i64 E) := by simp [go_sem]
  have a4_ : (w.alloc (.cells #[.int .i64 E, .slice A xs.length c] 28)).cell? ⟨w.heap.size, 1, none⟩ = some (.slice A xs.length c) := by simp [go_sem]
  go_wp2_with fail
  refine (specCaseOk_any E A c xs _ _ _ o1_ (by first | omega | (simp; omega) | simp) hl).mono ?_
  rintro e w5 ⟨he, hb5_⟩
  rw [HCB.out] at he
  subst he
  have o6_ := o1_.below hb5_ (by first | omega | (simp; omega) | simp)
  have o7_ := (hb5_.cell (p := ⟨w.heap.size, 0, none⟩) (by first | omega | (simp; omega) | simp)).trans a3_
  have o8_ := (hb5_.cell (p := ⟨w.heap.size, 1, none⟩) (by first | omega | (simp; omega) | simp)).trans a4_
  have z9_ := hb5_.size
  try simp at z9_
  have B10_ := B2_.trans (hb5_.mono (by first | omega | (simp; omega) | simp))
  clear hb5_
  go_upto_region 4 with (at_make; (refine make_gr (by rfl) _ _ (by rfl) (n := xs.length) (x := (xs.length : Int)) (by omega) (by rfl) (by rfl) (by omega) ?_; intro w11 G11_ hb12_))
  have o14_ := o6_.below hb12_ (by first | omega | (simp; omega) | simp)
  have o15_ := (hb12_.cell (p := ⟨w.heap.size, 0, none⟩) (by first | omega | (simp; omega) | simp)).trans o7_
  have o16_ := (hb12_.cell (p := ⟨w.heap.size, 1, none⟩) (by first | omega | (simp; omega) | simp)).trans o8_
  have z17_ := hb12_.size
  have B18_ := B10_.trans (hb12_.mono (by first | omega | (simp; omega) | simp))
  clear hb12_
  have l19_ := G11_.lt
  have HL20_ : Hid ((List.replicate xs.length 0).length = xs.length) := List.length_replicate
  go_wp2_with fail
  refine (l7Orders_any xs.length _ (by omega)).mono ?_
  rintro e w21 ⟨g24_, c25_, rfl, R22_, hb23_⟩
  have o28_ := o14_.below hb23_ (by first | omega | (simp; omega) | simp)
  have o29_ := G11_.below hb23_ (by first | omega | (simp; omega) | simp)
  have o30_ := (hb23_.cell (p := ⟨w.heap.size, 0, none⟩) (by first | omega | (simp; omega) | simp)).trans o15_
  have o31_ := (hb23_.cell (p := ⟨w.heap.size, 1, none⟩) (by first | omega | (simp; omega) | simp)).trans o16_
  have z32_ := hb23_.size
  have B33_ := B18_.trans (hb23_.mono (by first | omega | (simp; omega) | simp))
  clear hb23_
  have l26_ := R22_.lt
  have l27_ := R22_.ge
  go_wp2
  go_loopw [5] (fun i wr => ∃ m : Nat, i = .int .i64 m ∧ (m ≤ (perms xs.length).length) ∧ Grow wr w5.heap.size xs.length (fnRow xs.length (totTo E xs m)) ∧ Below w.heap.size w wr ∧ w21.heap.size ≤ wr.heap.size ∧ Ints wr (lo) (hi) A xs ∧ Rows wr true w11.heap.size w21.heap.size g24_ c25_ (perms xs.length) ∧ wr.cell? ⟨w.heap.size, 0, none⟩ = some (.int .i64 E) ∧ wr.cell? ⟨w.heap.size, 1, none⟩ = some (.slice A xs.length c)) (fun i _ => (perms xs.length).length - (intOf i).toNat)
  case atStart => exact ⟨0, rfl, Nat.zero_le _, (by have e : fnRow xs.length (totTo E xs 0) = List.replicate xs.length 0 := (by rw [← fnRow_zero]; exact fnRow_congr fun i _ => totTo_zero E xs i); rw [e]; exact o29_), B33_, (by first | omega | (simp; omega) | simp), o28_, R22_, o30_, o31_⟩
  case round =>
    obtain ⟨m, rfl, hm, G35_, k36_, k37_, k38_, k39_, k40_, k41_⟩ := hrel
    obtain ⟨w34, rfl⟩ : ∃ x, x = wr := ⟨_, rfl⟩
    have HL42_ : Hid ((fnRow xs.length (totTo E xs m)).length = xs.length) := (fnRow_length _ _)
    have l43_ := G35_.lt
    by_cases hlt0 : m < (perms xs.length).length
    · obtain ⟨B44_, d45_, c46_, F47_, rm49_, F47_n⟩ := k39_.at_ m (by omega)
      obtain ⟨b50_, f51_, rfl⟩ := F47_n rfl
      obtain ⟨y48_, hy48_⟩ : ∃ y, (perms xs.length).getD m [] = y := ⟨_, rfl⟩
      rw [hy48_] at c46_ F47_ rm49_
      have Hy48_ := Lib.hid hy48_
      clear hy48_
      have HLy48_ : Hid (y48_.length = xs.length) := by show _ = _; rw [← Hy48_.out]; exact perms_at (by omega) (by omega)
      rw [HLy48_.out] at c46_ rm49_
      have c46_ : w34.cell? ⟨g24_, m, none⟩ = some (.slice (some ⟨b50_, f51_, none⟩) xs.length d45_) := c46_
      have c46_i : (m : Int) < ((perms xs.length).length : Int) := by omega
      have c46_j : (0 : Int) ≤ (m : Int) := by omega
      have g62_ : w.heap.size < w34.heap.size := (by first | omega | (simp; omega) | simp)
      have g63_ : hi ≤ w34.heap.size := (by first | omega | (simp; omega) | simp)
      have g64_ : w21.heap.size ≤ w34.heap.size := (by first | omega | (simp; omega) | simp)
      have g65_ : w5.heap.size + 1 ≤ w34.heap.size := (by first | omega | (simp; omega) | simp)
      have g66_ : w21.heap.size ≤ w34.heap.size := (by first | omega | (simp; omega) | simp)
      have g67_ : g24_ < w34.heap.size := (by first | omega | (simp; omega) | simp)
      have g68_ : w.heap.size ≤ w34.heap.size := (by first | omega | (simp; omega) | simp)
      go_wp2_with fail
      refine wp_region_held_drew (S := (fun w' : World => Below w.heap.size w w' ∧ w34.heap.size ≤ w'.heap.size ∧ Ints w' (lo) (hi) A xs ∧ Rows w' true w11.heap.size w21.heap.size g24_ c25_ (perms xs.length) ∧ Grow w' w5.heap.size xs.length (fnRow xs.length (totTo E xs m)) ∧ Ints w' (w11.heap.size) (w21.heap.size) (some ⟨b50_, f51_, none⟩) y48_ ∧ w'.cell? ⟨w.heap.size, 0, none⟩ = some (.int .i64 E) ∧ w'.cell? ⟨w.heap.size, 1, none⟩ = some (.slice A xs.length c) ∧ w'.cell? ⟨g24_, m, none⟩ = some (.slice (some ⟨b50_, f51_, none⟩) xs.length d45_) ∧ w34.heap.size ≤ w'.heap.size)) (by kernel_rfl) ⟨k36_.drew, by exact (by first | omega | (simp; omega) | simp), k38_, k39_, G35_, F47_, k40_, k41_, c46_, Nat.le_refl _⟩ (fun hHeld => ?_)
      refine wpAnyH_take (i := 0) (oi := ?oi1) (v := ?vv1) ?hi1 ?hs1 ?hf1 ?ha1 ?hq1 ?hy1 hHeld ?hr1
      case hi1 => (simp only [List.getElem?_toArray, List.getElem?_cons_zero]; exact rfl)
      case hs1 => kernel_rfl
      case hf1 => kernel_rfl
      case ha1 => kernel_rfl
      case hq1 => exact fun _ _ _ h => h
      case hy1 =>
        refine Or.inl ⟨by rfl, ?_⟩
        intro w' hSw
        try dsimp only at hSw
        go_simp
        first | done | with_reducible rfl
      simp only [Act.put, List.setIfInBounds_toArray, List.set_cons_succ, List.set_cons_zero]
      refine wpAnyH_take (i := 1) (oi := ?oi2) (v := ?vv2) ?hi2 ?hs2 ?hf2 ?ha2 ?hq2 ?hy2 hHeld ?hr2
      case hi2 => (simp only [List.getElem?_toArray, List.getElem?_cons_succ, List.getElem?_cons_zero]; exact rfl)
      case hs2 => kernel_rfl
      case hf2 => kernel_rfl
      case ha2 => kernel_rfl
      case hq2 => exact fun _ _ _ h => h
      case hy2 =>
        refine Or.inl ⟨by rfl, ?_⟩
        intro w' hSw
        try dsimp only at hSw
        go_simp
        first | done | with_reducible rfl
      simp only [Act.put, List.setIfInBounds_toArray, List.set_cons_succ, List.set_cons_zero]
      refine wpAnyH_take (i := 2) (oi := ?oi3) (v := ?vv3) ?hi3 ?hs3 ?hf3 ?ha3 ?hq3 ?hy3 hHeld ?hr3
      case hi3 => (simp only [List.getElem?_toArray, List.getElem?_cons_succ, List.getElem?_cons_zero]; exact rfl)
      case hs3 => kernel_rfl
      case hf3 => kernel_rfl
      case ha3 => kernel_rfl
      case hq3 => exact fun _ _ _ h => h
      case hy3 =>
        refine Or.inl ⟨by rfl, ?_⟩
        intro w' hSw
        try dsimp only at hSw
        go_simp
        first | done | with_reducible rfl
      simp only [Act.put, List.setIfInBounds_toArray, List.set_cons_succ, List.set_cons_zero]
      refine wpAnyH_take (i := 3) (oi := ?oi4) (v := ?vv4) ?hi4 ?hs4 ?hf4 ?ha4 ?hq4 ?hy4 hHeld ?hr4
      case hi4 => (simp only [List.getElem?_toArray, List.getElem?_cons_succ, List.getElem?_cons_zero]; exact rfl)
      case hs4 => kernel_rfl
      case hf4 => kernel_rfl
      case ha4 => kernel_rfl
      case hq4 => exact fun _ _ _ h => h
      case hy4 =>
        refine Or.inl ⟨by rfl, ?_⟩
        intro w' hSw
        try dsimp only at hSw
        go_simp
        first | done | with_reducible rfl
      simp only [Act.put, List.setIfInBounds_toArray, List.set_cons_succ, List.set_cons_zero]
      refine wpAnyH_take (i := 4) (oi := ?oi5) (v := ?vv5) ?hi5 ?hs5 ?hf5 ?ha5 ?hq5 ?hy5 hHeld ?hr5
      case hi5 => (simp only [List.getElem?_toArray, List.getElem?_cons_succ, List.getElem?_cons_zero]; exact rfl)
      case hs5 => kernel_rfl
      case hf5 => kernel_rfl
      case ha5 => kernel_rfl
      case hq5 => exact fun _ _ _ h => h
      case hy5 =>
        refine Or.inl ⟨by rfl, ?_⟩
        intro w' hSw
        try dsimp only at hSw
        go_simp
        first | done | with_reducible rfl
      simp only [Act.put, List.setIfInBounds_toArray, List.set_cons_succ, List.set_cons_zero]
      refine wpAnyH_ready (rs := [5]) (by kernel_rfl) (by simp) ?_
      refine AllReadyH.cons rfl (fun K hK => ?_) AllReadyH.nil
      go_simp
      go_at_call 86
      rw [slice_n (A := (some ⟨b50_, f51_, none⟩)) (n := xs.length) (m := y48_.length) (c := d45_) (by have e := HLy48_.out; first | omega | exact e.symm)]
      obtain ⟨BB, zz, k55_, k56_, k57_, k58_, k59_, k60_, q61_, zw⟩ := hHeld
      (with_reducible refine (specOrderAw_in E A c xs (some ⟨b50_, f51_, none⟩) d45_ y48_ _ _ _ k55_ (by first | omega | (simp; omega) | simp) _ _ k58_ (by first | omega | (simp; omega) | simp) HCB.out (by rw [← Hy48_.out]; exact perms_in (by omega)) (by have e := HLy48_.out; omega)).mono ?_)
      rintro e w69 ⟨A52_, c53_, rfl, ho54_, hb9⟩
      have ho54_ := ho54_.more (lo' := w34.heap.size) (by omega) (Nat.le_refl _)
      refine hK.out _ _ ⟨BB.trans (hb9.mono (by omega)), Nat.le_trans zz hb9.size, k55_.below hb9 (by first | omega | (simp; omega) | simp), k56_.below hb9 (by first | omega | (simp; omega) | simp), k57_.below hb9 (by first | omega | (simp; omega) | simp), k58_.below hb9 (by first | omega | (simp; omega) | simp), (hb9.cell (p := ⟨w.heap.size, 0, none⟩) (by first | omega | (simp; omega) | simp)).trans k59_, (hb9.cell (p := ⟨w.heap.size, 1, none⟩) (by first | omega | (simp; omega) | simp)).trans k60_, (hb9.cell (by show g24_ < _; omega)).trans q61_, Nat.le_trans zw hb9.size⟩ (fun hHeld => ?_)
      clear hb9 zw q61_ k60_ k59_ k58_ k57_ k56_ k55_ zz BB
      clear hK K
      try simp only [Act.put, List.setIfInBounds_toArray, List.set_cons_zero, List.set_cons_succ]
      refine wpAnyH_take (i := 6) (oi := ?oi6) (v := ?vv6) ?hi6 ?hs6 ?hf6 ?ha6 ?hq6 ?hy6 hHeld ?hr6
      case hi6 => (simp only [List.getElem?_toArray, List.getElem?_cons_succ, List.getElem?_cons_zero]; exact rfl)
      case hs6 => kernel_rfl
      case hf6 => kernel_rfl
      case ha6 => kernel_rfl
      case hq6 => exact fun _ _ _ h => h
      case hy6 =>
        refine Or.inl ⟨by rfl, ?_⟩
        intro w' hSw
        try dsimp only at hSw
        go_simp
        first | done | with_reducible rfl
      simp only [Act.put, List.setIfInBounds_toArray, List.set_cons_succ, List.set_cons_zero]
      refine wpAnyH_done (by kernel_rfl) ?_ _
      obtain ⟨BB, zz, k55_, k56_, k57_, k58_, k59_, k60_, q61_, zw⟩ := hHeld
      have k70_ := BB
      clear BB
      have k71_ := zz
      clear zz
      have k72_ := zw
      clear zw
      have HOL : Hid ((ordAw E xs y48_).length = xs.length) := ordAw_length _ _ _
      have hol1 : (ordAw E xs y48_).length ≤ xs.length := by have e := HOL.out; omega
      have hol2 : xs.length ≤ (ordAw E xs y48_).length := by have e := HOL.out; omega
      go_wp2
      go_loopw [7] (fun i wr => ∃ j : Nat, i = .int .i64 j ∧ (j ≤ xs.length) ∧ Grow wr w5.heap.size xs.length (fnRow xs.length (fun i => if i < j then totTo E xs (m + 1) i else totTo E xs m i)) ∧ Below w.heap.size w wr ∧ w69.heap.size ≤ wr.heap.size ∧ Ints wr (lo) (hi) A xs ∧ Rows wr true w11.heap.size w21.heap.size g24_ c25_ (perms xs.length) ∧ Ints wr (w11.heap.size) (w21.heap.size) (some ⟨b50_, f51_, none⟩) y48_ ∧ Own wr (w34.heap.size) (w69.heap.size) A52_ (ordAw E xs y48_) ∧ wr.cell? ⟨w.heap.size, 0, none⟩ = some (.int .i64 E) ∧ wr.cell? ⟨w.heap.size, 1, none⟩ = some (.slice A xs.length c)) (fun i _ => (ordAw E xs y48_).length - (intOf i).toNat)
      case atStart => exact ⟨0, rfl, Nat.zero_le _, (by have e : fnRow xs.length (fun i => if i < 0 then totTo E xs (m + 1) i else totTo E xs m i) = fnRow xs.length (totTo E xs m) := fnRow_congr (fun i _ => if_neg (by omega)); rw [e]; exact k57_), k70_, (by first | omega | (simp; omega) | simp), k55_, k56_, k58_, ho54_, k59_, k60_⟩
      case round =>
        obtain ⟨j, rfl, hj, G74_, k75_, k76_, k77_, k78_, k79_, k80_, k81_, k82_⟩ := hrel
        obtain ⟨w73, rfl⟩ : ∃ x, x = wr := ⟨_, rfl⟩
        have HL83_ : Hid ((fnRow xs.length (fun i => if i < j then totTo E xs (m + 1) i else totTo E xs m i)).length = xs.length) := (fnRow_length _ _)
        have l84_ := G74_.lt
        by_cases hlt2 : j < (ordAw E xs y48_).length
        · have c85_ : w73.cell? ⟨w5.heap.size, j, none⟩ = some (.int .i64 ((fnRow xs.length (fun i => if i < j then totTo E xs (m + 1) i else totTo E xs m i)).getD j 0)) := G74_.at_ j (by rw [fnRow_length]; omega)
          have c85_i : (j : Int) < (xs.length : Int) := by omega
          have c85_j : (0 : Int) ≤ (j : Int) := by omega
          have v86_g := mid_rg HCB.out (m := m) (j := j) (by omega) (k := j) (by omega)
          obtain ⟨v86_, hv86_⟩ : ∃ v, v = (fnRow xs.length (fun i => if i < j then totTo E xs (m + 1) i else totTo E xs m i)).getD j 0 := ⟨_, rfl⟩
          rw [← hv86_] at c85_ v86_g
          have Hv86_ := Lib.hid hv86_
          clear hv86_
          obtain ⟨v86_g1, v86_g2⟩ := v86_g
          obtain ⟨b87_, f88_, rfl, b87_l, b87_h, -⟩ := k80_.ints (by rw [ordAw_length]; omega)
          have c89_ : w73.cell? ⟨b87_, f88_ + j, none⟩ = some (.int .i64 ((ordAw E xs y48_).getD j 0)) := k80_.ints.at2 j (by first | omega | (simp; omega) | simp)
          have c89_i : (j : Int) < ((ordAw E xs y48_).length : Int) := by omega
          have c89_j : (0 : Int) ≤ (j : Int) := by omega
          have v90_g := ordAw_rg (os := y48_) HCB.out j
          obtain ⟨v90_, hv90_⟩ : ∃ v, v = (ordAw E xs y48_).getD j 0 := ⟨_, rfl⟩
          rw [← hv90_] at c89_ v90_g
          have Hv90_ := Lib.hid hv90_
          clear hv90_
          obtain ⟨v90_g1, v90_g2⟩ := v90_g
          have hw91_ : IntKind.i64.wrap (v86_ + v90_) = (v86_ + v90_) := IntWalk.i64_in _ (by omega)
          have c92_ := G74_.at_ j (by rw [fnRow_length]; omega)
          have c92_f := G74_.soft j (by rw [fnRow_length]; omega)
          clear c92_
          have c92_i : (j : Int) < (xs.length : Int) := by omega
          have c92_j : (0 : Int) ≤ (j : Int) := by omega
          have hw95_ : IntKind.i64.wrap (v86_ + v90_) = (v86_ + v90_) := IntWalk.i64_in _ (by omega)
          go_wp2_with fail
          go_region
          obtain ⟨w94, hw94⟩ : ∃ x, x = ((w73.setCell ⟨w5.heap.size, j, none⟩ (.int .i64 (v86_ + v90_))).drew) := ⟨_, rfl⟩
          rw [← hw94]
          have hC93_ : Chg w5.heap.size (w5.heap.size + 1) w73 w94 := by rw [hw94]; exact (Chg.setCell (lo := w5.heap.size) (hi := w5.heap.size + 1) w73 (p := ⟨w5.heap.size, j, none⟩) ⟨Nat.le_refl _, Nat.lt_succ_self _⟩ (.int .i64 (v86_ + v90_))).drewR
          have G96_ : Grow w94 w5.heap.size xs.length ((fnRow xs.length (fun i => if i < j then totTo E xs (m + 1) i else totTo E xs m i)).set j (v86_ + v90_)) := by rw [hw94]; exact (G74_.store j (v86_ + v90_)).drew
          clear hw94
          have o97_ := k77_.chg hC93_ (by first | omega | (simp; omega) | simp) (by omega)
          have o98_ := k78_.chg hC93_ (by omega)
          have o99_ := k79_.chg hC93_ (by first | omega | (simp; omega) | simp) (by omega)
          have o100_ := k80_.chg hC93_ (by first | omega | (simp; omega) | simp) (by omega)
          have o101_ := (hC93_.cell (p := ⟨w.heap.size, 0, none⟩) (by first | omega | (simp; omega) | simp) (by first | omega | (simp; omega))).trans k81_
          have o102_ := (hC93_.cell (p := ⟨w.heap.size, 1, none⟩) (by first | omega | (simp; omega) | simp) (by first | omega | (simp; omega))).trans k82_
          have z103_ := hC93_.size
          have B104_ := k75_.trans (hC93_.below (by omega) (by first | omega | (simp; omega) | simp))
          clear hC93_
          have HL105_ : Hid (((fnRow xs.length (fun i => if i < j then totTo E xs (m + 1) i else totTo E xs m i)).set j (v86_ + v90_)).length = xs.length) := by show _ = _; rw [List.length_set]; first | rfl | omega | exact HL83_.out
          go_wp2
          go_roundw
          case rel => exact ⟨j + 1, by go_num, by omega, (by have e2 := fnRow_set (n := xs.length) (f := fun i => if i < j then totTo E xs (m + 1) i else totTo E xs m i) (g := fun i => if i < (j + 1) then totTo E xs (m + 1) i else totTo E xs m i) (k := j) (v := v86_ + v90_) (fun i _ hn => by (try simp only []); by_cases h : i < j; rw [if_pos h, if_pos (by omega)]; rw [if_neg h, if_neg (by omega)]) (by (try simp only []); rw [if_pos (by omega), totTo_succ E xs (by omega), Hy48_.out, Hv90_.out, Hv86_.out, fnRow_getD _ (by omega)]; rw [if_neg (by omega)]); rw [← e2]; exact G96_), B104_, (by first | omega | (simp; omega) | simp), o97_, o98_, o99_, o100_, o101_, o102_⟩
          case measure => simp [intOf] <;> omega
        · obtain rfl : j = xs.length := by omega
          go_wp2
          go_roundw
          case rel => exact ⟨m + 1, by go_num, by omega, (by have e : fnRow xs.length (totTo E xs (m + 1)) = fnRow xs.length (fun i => if i < xs.length then totTo E xs (m + 1) i else totTo E xs m i) := fnRow_congr (fun i hi => (if_pos hi).symm); rw [e]; exact G74_), k75_, (by first | omega | (simp; omega) | simp), k77_, k78_, k81_, k82_⟩
          case measure => simp [intOf] <;> omega
    · obtain rfl : m = (perms xs.length).length := by omega
      go_wp2
      go_loopw [8] (fun i wr => ∃ q : Nat, i = .int .i64 q ∧ (q ≤ xs.length) ∧ Grow wr w5.heap.size xs.length (fnRow xs.length (fun i => if i < q then arrAt E xs i else totTo E xs (perms xs.length).length i)) ∧ Below w.heap.size w wr ∧ w34.heap.size ≤ wr.heap.size ∧ Ints wr (lo) (hi) A xs ∧ Rows wr true w11.heap.size w21.heap.size g24_ c25_ (perms xs.length) ∧ wr.cell? ⟨w.heap.size, 0, none⟩ = some (.int .i64 E) ∧ wr.cell? ⟨w.heap.size, 1, none⟩ = some (.slice A xs.length c)) (fun i _ => xs.length - (intOf i).toNat)
      case atStart => exact ⟨0, rfl, Nat.zero_le _, (by have e : fnRow xs.length (fun i => if i < 0 then arrAt E xs i else totTo E xs (perms xs.length).length i) = fnRow xs.length (totTo E xs (perms xs.length).length) := fnRow_congr (fun i _ => if_neg (by omega)); rw [e]; exact G35_), k36_, (by first | omega | (simp; omega) | simp), k38_, k39_, k40_, k41_⟩
      case round =>
        obtain ⟨q, rfl, hq, G45_, k46_, k47_, k48_, k49_, k50_, k51_⟩ := hrel
        obtain ⟨w44, rfl⟩ : ∃ x, x = wr := ⟨_, rfl⟩
        have HL52_ : Hid ((fnRow xs.length (fun i => if i < q then arrAt E xs i else totTo E xs (perms xs.length).length i)).length = xs.length) := (fnRow_length _ _)
        have l53_ := G45_.lt
        by_cases hlt4 : q < xs.length
        · have c54_ : w44.cell? ⟨w5.heap.size, q, none⟩ = some (.int .i64 ((fnRow xs.length (fun i => if i < q then arrAt E xs i else totTo E xs (perms xs.length).length i)).getD q 0)) := G45_.at_ q (by rw [fnRow_length]; omega)
          have c54_i : (q : Int) < (xs.length : Int) := by omega
          have c54_j : (0 : Int) ≤ (q : Int) := by omega
          have v55_g := div_rg HCB.out (q := q) (k := q) (by omega) (by omega)
          obtain ⟨v55_, hv55_⟩ : ∃ v, v = (fnRow xs.length (fun i => if i < q then arrAt E xs i else totTo E xs (perms xs.length).length i)).getD q 0 := ⟨_, rfl⟩
          rw [← hv55_] at c54_ v55_g
          have Hv55_ := Lib.hid hv55_
          clear hv55_
          obtain ⟨v55_g1, v55_g2⟩ := v55_g
          have c57_ := G45_.at_ q (by rw [fnRow_length]; omega)
          have c57_f := G45_.soft q (by rw [fnRow_length]; omega)
          have c57_i : (q : Int) < (xs.length : Int) := by omega
          have c57_j : (0 : Int) ≤ (q : Int) := by omega
          have hC56_ := Chg.setCell (lo := w5.heap.size) (hi := w5.heap.size + 1) w44 (p := ⟨w5.heap.size, q, none⟩) ⟨Nat.le_refl _, Nat.lt_succ_self _⟩ (.int .i64 (v55_ / ((perms xs.length).length : Int)))
          have G58_ := G45_.store q (v55_ / ((perms xs.length).length : Int))
          have o59_ := k48_.chg hC56_ (by first | omega | (simp; omega) | simp) (by omega)
          have o60_ := k49_.chg hC56_ (by omega)
          have o61_ := (hC56_.cell (p := ⟨w.heap.size, 0, none⟩) (by first | omega | (simp; omega) | simp) (by first | omega | (simp; omega))).trans k50_
          have o62_ := (hC56_.cell (p := ⟨w.heap.size, 1, none⟩) (by first | omega | (simp; omega) | simp) (by first | omega | (simp; omega))).trans k51_
          have z63_ := hC56_.size
          try simp at z63_
          have B64_ := k46_.trans (hC56_.below (by omega) (by first | omega | (simp; omega) | simp))
          clear hC56_
          go_wp2
          go_roundw
          case rel => exact ⟨q + 1, by go_num, by omega, (by have e2 := fnRow_set (n := xs.length) (f := fun i => if i < q then arrAt E xs i else totTo E xs (perms xs.length).length i) (g := fun i => if i < q + 1 then arrAt E xs i else totTo E xs (perms xs.length).length i) (k := q) (v := v55_ / ((perms xs.length).length : Int)) (fun i _ hn => by (try simp only []); by_cases h : i < q; rw [if_pos h, if_pos (by omega)]; rw [if_neg h, if_neg (by omega)]) (by (try simp only []); rw [if_pos (by omega), ← ord_mean (by omega) (by omega) (by omega), Hv55_.out, fnRow_getD _ (by omega), if_neg (by omega), totTo_all]); rw [← e2]; exact G58_), B64_, (by first | omega | (simp; omega) | simp), o59_, o60_, o61_, o62_⟩
          case measure => simp [intOf] <;> omega
        · obtain rfl : q = xs.length := by omega
          have hfin : arrRow E xs = fnRow xs.length (fun i => if i < xs.length then arrAt E xs i else totTo E xs (perms xs.length).length i) := by rw [arrRow, if_pos HCB.out, arr_fn]; exact fnRow_congr (fun i hi => (if_pos hi).symm)
          go_wp2
          go_ret
          rw [hfin]
          (refine retInts_grow G45_ (by omega) ?_ k46_; rw [fnRow_length])

set_option maxRecDepth 10000 in
set_option maxHeartbeats 1000000 in
theorem specArrivalAwards_no (E : Int) (A : Option Addr) (c : Nat) (xs : List Int) (w : World) (lo hi : Nat) (h : Ints w lo hi A xs) (hh : hi ≤ w.heap.size) (hl : xs.length ≤ 1152921504606846976) (hok : caseOkB E xs = false) :
    Calls Try.prog 69 #[.agg #[.int .i64 E, .slice A xs.length c]] w (RetInts w (arrRow E xs)) := by
  have HCB := Lib.hid hok
  clear hok
  go_enter Try.func69, Try.ntmps69
  have o1_ := h.alloc (by first | omega | (simp; omega) | simp) (.cells #[.int .i64 E, .slice A xs.length c] 28)
  have B2_ := (Below.refl w.heap.size w).alloc (Nat.le_refl _) (.cells #[.int .i64 E, .slice A xs.length c] 28)
  have a3_ : (w.alloc (.cells #[.int .i64 E, .slice A xs.length c] 28)).cell? ⟨w.heap.size, 0, none⟩ = some (.int .i64 E) := by simp [go_sem]
  have a4_ : (w.alloc (.cells #[.int .i64 E, .slice A xs.length c] 28)).cell? ⟨w.heap.size, 1, none⟩ = some (.slice A xs.length c) := by simp [go_sem]
  go_wp2_with fail
  refine (specCaseOk_any E A c xs _ _ _ o1_ (by first | omega | (simp; omega) | simp) hl).mono ?_
  rintro e w5 ⟨he, hb5_⟩
  rw [HCB.out] at he
  subst he
  have o6_ := o1_.below hb5_ (by first | omega | (simp; omega) | simp)
  have o7_ := (hb5_.cell (p := ⟨w.heap.size, 0, none⟩) (by first | omega | (simp; omega) | simp)).trans a3_
  have o8_ := (hb5_.cell (p := ⟨w.heap.size, 1, none⟩) (by first | omega | (simp; omega) | simp)).trans a4_
  have z9_ := hb5_.size
  try simp at z9_
  have B10_ := B2_.trans (hb5_.mono (by first | omega | (simp; omega) | simp))
  clear hb5_
  have o11_ := o6_.alloc (by first | omega | (simp; omega) | simp) (.cells #[] 3)
  have o12_ := cell_alloc (o := (.cells #[] 3)) o7_ (by first | omega | (simp; omega) | simp)
  have o13_ := cell_alloc (o := (.cells #[] 3)) o8_ (by first | omega | (simp; omega) | simp)
  have B14_ := B10_.alloc (by first | omega | (simp; omega) | simp) (.cells #[] 3)
  have G15_ : Grow (w5.alloc (.cells #[] 3)) (w5.heap.size) 0 ([] : List Int) := by have e := grow_lit w5 ([] : List Int) (by simp); (try simp only [hsz] at e); exact e
  have l16_ := G15_.lt
  have HL17_ : Hid (([] : List Int).length = 0) := rfl
  have hfin : arrRow E xs = [] := by rw [arrRow, if_neg (by rw [HCB.out]; simp)]
  go_wp2
  go_ret
  rw [hfin]
  (refine retInts_grow G15_ (by omega) rfl B14_)

theorem specArrivalAwards_any (E : Int) (A : Option Addr) (c : Nat) (xs : List Int) (w : World) (lo hi : Nat) (h : Ints w lo hi A xs) (hh : hi ≤ w.heap.size) (hl : xs.length ≤ 1152921504606846976) :
    Calls Try.prog 69 #[.agg #[.int .i64 E, .slice A xs.length c]] w (RetInts w (arrRow E xs)) := by
  by_cases hok : caseOkB E xs = true
  · exact specArrivalAwards_yes E A c xs w lo hi h hh hl hok
  · exact specArrivalAwards_no E A c xs w lo hi h hh hl (by simpa using hok)


end Go.Proofs.Ytkkdolbbioeknaa
