/-
  Chapter 10 of the program: NeedsOk, RunwayCost, RunwayShares, what each one pays in an order, PaysOk. No condition but lengths that fit.
-/
import Derived.Test.YtbegdcnljafloaaRunI
import Derived.Test.YtbegdcnljafloaaGA
import Derived.Test.YtbegdcnljafloaaSpec10
import Derived.Test.YtbegdcnljafloaaGame6A
namespace Go.Proofs.Ytbegdcnljafloaa
open Go.RowKit

theorem needB_each (xs : List Int) : eachB 12 xs = needB xs := rfl
theorem cast_pow10 {n p : Nat} (hp : 2 ^ n = p) : (p : Int) = 2 ^ n := by subst hp; simp
theorem implNeeds_same (A : Option Addr) (c : Nat) (xs : List Int) (w : World) (lo hi : Nat) (h : Ints w lo hi A xs) (hl : xs.length ≤ 1000000000) :
    Calls Try.prog 26 #[.slice A xs.length c] w (fun e w' => e = .returned (.bool (needB xs)) ∧ w = w') := by
  go_enter Try.func26, Try.ntmps26
  go_wp2_with (go_at_call 58; refine (eachUpTo_any 12 _ _ _ _ _ _ h (by omega)).mono ?_; rintro e w' ⟨rfl, rfl⟩)
  go_ret
  exact ⟨ret_bool rfl, rfl⟩
theorem implNeedsOk_any (A : Option Addr) (c : Nat) (xs : List Int) (w : World) (lo hi : Nat) (h : Ints w lo hi A xs) (_hh : hi ≤ w.heap.size) (hl : xs.length ≤ 1000000000) :
    Calls Try.prog 26 #[.slice A xs.length c] w (fun e w' => e = .returned (.bool (needB xs)) ∧ Below w.heap.size w w') := (implNeeds_same A c xs w lo hi h hl).mono fun _ _ ⟨e, r⟩ => ⟨e, r ▸ Below.refl _ _⟩

set_option maxRecDepth 10000 in
set_option maxHeartbeats 1000000 in
theorem implCost_same (A : Option Addr) (c : Nat) (xs : List Int) (s : Int) (w : World) (lo hi : Nat) (h : Ints w lo hi A xs) (hl : xs.length ≤ 1000000000) :
    Calls Try.prog 32 #[.slice A xs.length c, .int .i64 s] w fun e w' => e = .returned (.int .i64 (runCost xs s)) ∧ w = w' := by
  go_enter Try.func32, Try.ntmps32
  by_cases h1_ : needB xs = true
  · have H1_ := Lib.hid h1_
    clear h1_
    have hbd := need_bd H1_.out
    obtain ⟨hx1, hx4⟩ := hbd
    have HV := Lib.hid (need_rg H1_.out)
    have HNB := Lib.hid H1_.out
    obtain ⟨p, hp⟩ : ∃ p : Nat, 2 ^ xs.length = p := ⟨_, rfl⟩
    have hpb := pow_bd3 hp hx4
    obtain ⟨hp1, hp2⟩ := hpb
    have HP := Lib.hid hp
    clear hp
    go_wp2_with fail
    refine (implNeeds_same A c xs _ _ _ h (by omega)).mono ?_
    rintro e w' ⟨he, rfl⟩
    rw [H1_.out] at he
    subst he
    by_cases h2_ : 0 ≤ s ∧ s < (p : Int)
    · have H2_ := Lib.hid h2_
      clear h2_
      obtain ⟨H2_a, H2_b⟩ := H2_.out
      go_wp2_with fail
      refine (isSet_yes s xs.length p _ (by omega) HP.out H2_.out).mono ?_
      rintro e w' ⟨rfl, rfl⟩
      go_wp2
      go_loop [5, 20] (fun o i => ∃ k : Nat, ∃ C : Int, o = .int .i64 C ∧ i = .int .i64 k ∧ (k ≤ xs.length) ∧ (C = costTo xs s k)) (fun o i => xs.length - (intOf i).toNat)
      case atStart => exact ⟨0, 0, rfl, rfl, Nat.zero_le _, rfl⟩
      case round =>
        obtain ⟨k, C, rfl, rfl, hk, hC⟩ := hrel
        have hbC := cost_rg HV.out s k
        rw [← hC] at hbC
        obtain ⟨hbC1, hbC2⟩ := hbC
        have HC := Lib.hid hC
        clear hC
        by_cases hlt0 : k < xs.length
        · obtain ⟨b3_, f4_, rfl, _, b3_h, -⟩ := h (by omega)
          have c5_ : w.cell? ⟨b3_, f4_ + k, none⟩ = some (.int .i64 (xs.getD k 0)) := h.at2 k (by first | omega | (simp; omega) | simp)
          have c5_i : (k : Int) < (xs.length : Int) := by omega
          have c5_j : (0 : Int) ≤ (k : Int) := by omega
          have v6_g := (HV.out k : 0 ≤ xs.getD k 0 ∧ xs.getD k 0 ≤ 12)
          obtain ⟨v6_, hv6_⟩ : ∃ v, v = xs.getD k 0 := ⟨_, rfl⟩
          rw [← hv6_] at c5_ v6_g
          have Hv6_ := Lib.hid hv6_
          clear hv6_
          obtain ⟨v6_g1, v6_g2⟩ := v6_g
          by_cases h7_ : s / 2 ^ k % 2 = 1
          · have H7_ := Lib.hid h7_
            clear h7_
            go_wp2_with fail
            refine (isWithin_yes k s _ (by omega) (by omega) (by omega) H7_.out).mono ?_
            rintro e w' ⟨rfl, rfl⟩
            obtain ⟨m8_, hm8_⟩ : ∃ m : Int, (if v6_ > C then v6_ else C) = m := ⟨_, rfl⟩
            have hm8_x : max C v6_ = m8_ := by rw [← hm8_]; split <;> omega
            have Hm8_ := Lib.hid hm8_x
            have m8_l : m8_ ≥ C := by have e := Hm8_.out; omega
            have m8_u : m8_ ≥ v6_ := by have e := Hm8_.out; omega
            have m8_o : m8_ = C ∨ m8_ = v6_ := by have e := Hm8_.out; omega
            go_wp2
            go_round
            case rel => exact ⟨k + 1, m8_, by go_num, by go_num, by omega, by simp only [costTo]; rw [if_pos H7_.out, ← HC.out, ← Hv6_.out]; exact Hm8_.out.symm⟩
            case measure => simp [intOf] <;> omega
          · have H7_ := Lib.hid h7_
            clear h7_
            go_wp2_with fail
            refine (isWithin_no k s _ (by omega) (by omega) (by omega) H7_.out).mono ?_
            rintro e w' ⟨rfl, rfl⟩
            go_wp2
            go_round
            case rel => exact ⟨k + 1, C, by go_num, by go_num, by omega, by simp only [costTo]; rw [if_neg H7_.out]; exact HC.out⟩
            case measure => simp [intOf] <;> omega
        · obtain rfl : k = xs.length := by omega
          go_wp2
          go_ret
          exact ⟨ret_int (by rw [runCost, if_pos ⟨HNB.out, by omega, by rw [← cast_pow10 HP.out]; omega⟩]; exact HC.out), rfl⟩
    · have H2_ := Lib.hid h2_
      clear h2_
      go_wp2_with fail
      refine (isSet_no s xs.length p _ (by omega) HP.out H2_.out).mono ?_
      rintro e w' ⟨rfl, rfl⟩
      go_wp2
      go_ret
      exact ⟨ret_int (by rw [runCost, if_neg (fun h => H2_.out ⟨h.2.1, by have e := h.2.2; rw [← cast_pow10 HP.out] at e; exact e⟩)]), rfl⟩
  · have H1_ : Hid (needB xs = false) := by show _ = _; simpa using h1_
    clear h1_
    go_wp2_with fail
    refine (implNeeds_same A c xs _ _ _ h (by omega)).mono ?_
    rintro e w' ⟨he, rfl⟩
    rw [H1_.out] at he
    subst he
    go_wp2
    go_ret
    exact ⟨ret_int (by rw [runCost, H1_.out]; simp), rfl⟩

theorem implRunwayCost_any (A : Option Addr) (c : Nat) (xs : List Int) (s : Int) (w : World) (lo hi : Nat) (h : Ints w lo hi A xs) (_hh : hi ≤ w.heap.size) (hl : xs.length ≤ 1000000000) :
    Calls Try.prog 32 #[.slice A xs.length c, .int .i64 s] w (fun e w' => e = .returned (.int .i64 (runCost xs s)) ∧ Below w.heap.size w w') := (implCost_same A c xs s w lo hi h hl).mono fun _ _ ⟨e, r⟩ => ⟨e, r ▸ Below.refl _ _⟩
theorem implCost_in (A : Option Addr) (c : Nat) (xs : List Int) (s : Int) (w : World) (lo hi : Nat) (h : Ints w lo hi A xs) (hb : needB xs = true) {p : Nat} (hp : 2 ^ xs.length = p) (h0 : 0 ≤ s) (h1 : s < (p : Int)) :
    Calls Try.prog 32 #[.slice A xs.length c, .int .i64 s] w (fun e w' => e = .returned (.int .i64 (costTo xs s xs.length)) ∧ w = w') := by
  have hbd := need_bd hb
  have e := implCost_same A c xs s w lo hi h (by omega)
  rwa [runCost, if_pos ⟨hb, h0, by rw [← cast_pow10 hp]; exact h1⟩] at e

theorem mul_rg10 {a b : Int} (ha : 0 ≤ a ∧ a ≤ 48) (hb : 0 ≤ b ∧ b ≤ 12) : 0 ≤ a * b ∧ a * b ≤ 576 := by
  constructor
  · exact Int.mul_nonneg ha.1 hb.1
  · have e := Int.mul_le_mul ha.2 hb.2 hb.1 (show (0 : Int) ≤ 48 by omega)
    omega

set_option maxRecDepth 10000 in
set_option maxHeartbeats 2000000 in
theorem implRunwayShares_yes (A : Option Addr) (c : Nat) (xs : List Int) (w : World) (lo hi : Nat) (h : Ints w lo hi A xs) (hh : hi ≤ w.heap.size) (hl : xs.length ≤ 1000000000) (hb : needB xs = true) :
    Calls Try.prog 23 #[.slice A xs.length c] w (RetInts w (sharesRow xs)) := by
  have HNB := Lib.hid hb
  have hbd := need_bd hb
  obtain ⟨hx1, hx4⟩ := hbd
  have HV := Lib.hid (need_rg hb)
  clear hb
  go_enter Try.func23, Try.ntmps23
  go_wp2_with fail
  refine (implNeeds_same A c xs _ _ _ h (by omega)).mono ?_
  rintro e w' ⟨he, rfl⟩
  rw [HNB.out] at he
  subst he
  go_upto_region 4 with (at_make; (refine make_gr (by rfl) _ _ (by rfl) (n := xs.length) (x := (xs.length : Int)) (by omega) (by rfl) (by rfl) (by omega) ?_; intro w1 G1_ hb2_))
  have o4_ := h.below hb2_ (by first | omega | (simp; omega) | simp)
  have z5_ := hb2_.size
  have B6_ := (Below.refl w.heap.size w).trans (hb2_.mono (by first | omega | (simp; omega) | simp))
  clear hb2_
  have l7_ := G1_.lt
  have HL8_ : Hid ((List.replicate xs.length 0).length = xs.length) := List.length_replicate
  go_wp2_with fail
  refine (ascending_any A c xs _ _ _ o4_ (by first | omega | (simp; omega) | simp) (by omega) (by omega)).mono ?_
  rintro e w9 ⟨A10_, c11_, rfl, ho12_, hb9_⟩
  have o13_ := o4_.below hb9_ (by first | omega | (simp; omega) | simp)
  have o14_ := G1_.below hb9_ (by first | omega | (simp; omega) | simp)
  have z15_ := hb9_.size
  have B16_ := B6_.trans (hb9_.mono (by first | omega | (simp; omega) | simp))
  clear hb9_
  have hsl1 : (srt xs).length ≤ xs.length := by rw [srt_length]; omega
  have hsl2 : xs.length ≤ (srt xs).length := by rw [srt_length]; omega
  go_wp2
  go_loopw [19, 4] (fun i q wr => ∃ b : Nat, ∃ Q : Int, i = .int .i64 b ∧ q = .int .i64 Q ∧ (b ≤ xs.length) ∧ (Q = paidTo xs b) ∧ Grow wr w.heap.size xs.length (fnRow xs.length (pieceTo xs b)) ∧ Below w.heap.size w wr ∧ w9.heap.size ≤ wr.heap.size ∧ Ints wr (lo) (hi) A xs ∧ Own wr (w1.heap.size) (w9.heap.size) A10_ (srt xs)) (fun i q _ => (srt xs).length - (intOf i).toNat)
  case atStart => exact ⟨0, 0, rfl, rfl, Nat.zero_le _, rfl, (by rw [piece_zero HNB.out]; exact o14_), B16_, (by first | omega | (simp; omega) | simp), o13_, ho12_⟩
  case round =>
    obtain ⟨b, Q, rfl, rfl, hb, hQ, G18_, k19_, k20_, k21_, k22_⟩ := hrel
    obtain ⟨w17, rfl⟩ : ∃ x, x = wr := ⟨_, rfl⟩
    have HL23_ : Hid ((fnRow xs.length (pieceTo xs b)).length = xs.length) := (fnRow_length _ _)
    have l24_ := G18_.lt
    have hQb := paid_rg HNB.out b
    rw [← hQ] at hQb
    obtain ⟨hQ1, hQ2⟩ := hQb
    have HQ := Lib.hid hQ
    clear hQ
    by_cases hlt0 : b < (srt xs).length
    · obtain ⟨b25_, f26_, rfl, b25_l, b25_h, -⟩ := k22_.ints (by omega)
      have c27_ : w17.cell? ⟨b25_, f26_ + b, none⟩ = some (.int .i64 ((srt xs).getD b 0)) := k22_.ints.at2 b (by first | omega | (simp; omega) | simp)
      have c27_i : (b : Int) < ((srt xs).length : Int) := by omega
      have c27_j : (0 : Int) ≤ (b : Int) := by omega
      have v28_g := srt_need HNB.out b
      obtain ⟨v28_, hv28_⟩ : ∃ v, v = (srt xs).getD b 0 := ⟨_, rfl⟩
      rw [← hv28_] at c27_ v28_g
      have Hv28_ := Lib.hid hv28_
      clear hv28_
      obtain ⟨v28_g1, v28_g2⟩ := v28_g
      have hq29_a := Int.ediv_nonneg (show 0 ≤ (48 : Int) by omega) (show 0 ≤ ((xs.length : Int) - (b : Int)) by omega)
      have hq29_b := Int.ediv_le_self ((xs.length : Int) - (b : Int)) (show 0 ≤ (48 : Int) by omega)
      have hq29_ : IntKind.i64.wrap ((48 : Int).tdiv ((xs.length : Int) - (b : Int))) = (48 : Int) / ((xs.length : Int) - (b : Int)) := by rw [Int.tdiv_eq_ediv_of_nonneg (by omega)]; exact IntWalk.i64_in _ (by omega)
      have hq29_y : (((xs.length : Int) - (b : Int)) == 0) = false := by simp only [beq_eq_false_iff_ne]; omega
      have hq29_z : (((xs.length : Int) - (b : Int)) = 0) = False := eq_false (by omega)
      have hQe : Q ≤ v28_ := by rw [HQ.out, Hv28_.out]; exact paid_up HNB.out (by omega)
      obtain ⟨P30_, hP30_⟩ : ∃ P, (48 / ((xs.length : Int) - (b : Int))) * (v28_ - Q) = P := ⟨_, rfl⟩
      have bP30_ := mul_rg10 (a := (48 / ((xs.length : Int) - (b : Int)))) (b := (v28_ - Q)) (by omega) (by omega)
      rw [hP30_] at bP30_
      obtain ⟨bP30_, bP30_'⟩ := bP30_
      have wP30_ : IntKind.i64.wrap P30_ = P30_ := IntWalk.i64_in _ (by omega)
      go_wp2
      go_loopw [35] (fun jj wr => ∃ j : Nat, jj = .int .i64 j ∧ (j ≤ xs.length) ∧ Grow wr w.heap.size xs.length (fnRow xs.length (pieceMid xs b j)) ∧ Below w.heap.size w wr ∧ w17.heap.size ≤ wr.heap.size ∧ Ints wr (lo) (hi) A xs ∧ Own wr (w1.heap.size) (w9.heap.size) (some ⟨b25_, f26_, none⟩) (srt xs)) (fun jj _ => xs.length - (intOf jj).toNat)
      case atStart => exact ⟨0, rfl, Nat.zero_le _, (by rw [pieceMid_zero]; exact G18_), k19_, (by first | omega | (simp; omega) | simp), k21_, k22_⟩
      case round =>
        obtain ⟨j, rfl, hj, G32_, k33_, k34_, k35_, k36_⟩ := hrel
        obtain ⟨w31, rfl⟩ : ∃ x, x = wr := ⟨_, rfl⟩
        have HL37_ : Hid ((fnRow xs.length (pieceMid xs b j)).length = xs.length) := (fnRow_length _ _)
        have l38_ := G32_.lt
        by_cases hlt2 : j < xs.length
        · obtain ⟨b39_, f40_, rfl, _, b39_h, -⟩ := k35_ (by omega)
          have c41_ : w31.cell? ⟨b39_, f40_ + j, none⟩ = some (.int .i64 (xs.getD j 0)) := k35_.at2 j (by first | omega | (simp; omega) | simp)
          have c41_i : (j : Int) < (xs.length : Int) := by omega
          have c41_j : (0 : Int) ≤ (j : Int) := by omega
          have v42_g := (HV.out j : 0 ≤ xs.getD j 0 ∧ xs.getD j 0 ≤ 12)
          obtain ⟨v42_, hv42_⟩ : ∃ v, v = xs.getD j 0 := ⟨_, rfl⟩
          rw [← hv42_] at c41_ v42_g
          have Hv42_ := Lib.hid hv42_
          clear hv42_
          obtain ⟨v42_g1, v42_g2⟩ := v42_g
          by_cases h43_ : v42_ ≥ v28_
          · have h43_d : decide (v42_ ≥ v28_) = true := decide_eq_true h43_
            have c44_ : w31.cell? ⟨w.heap.size, j, none⟩ = some (.int .i64 ((fnRow xs.length (pieceMid xs b j)).getD j 0)) := G32_.at_ j (by rw [fnRow_length]; omega)
            have c44_i : (j : Int) < (xs.length : Int) := by omega
            have c44_j : (0 : Int) ≤ (j : Int) := by omega
            have v45_g := pieceMid_rg HNB.out (b := b) (j := j) (k := j) (by omega)
            obtain ⟨v45_, hv45_⟩ : ∃ v, v = (fnRow xs.length (pieceMid xs b j)).getD j 0 := ⟨_, rfl⟩
            rw [← hv45_] at c44_ v45_g
            have Hv45_ := Lib.hid hv45_
            clear hv45_
            obtain ⟨v45_g1, v45_g2⟩ := v45_g
            have c47_ := G32_.at_ j (by rw [fnRow_length]; omega)
            have c47_f := G32_.soft j (by rw [fnRow_length]; omega)
            have c47_i : (j : Int) < (xs.length : Int) := by omega
            have c47_j : (0 : Int) ≤ (j : Int) := by omega
            clear c47_
            have hC46_ := Chg.setCell (lo := w.heap.size) (hi := w.heap.size + 1) w31 (p := ⟨w.heap.size, j, none⟩) ⟨Nat.le_refl _, Nat.lt_succ_self _⟩ (.int .i64 (v45_ + P30_))
            have G48_ := G32_.store j (v45_ + P30_)
            have o49_ := k35_.chg hC46_ (by first | omega | (simp; omega) | simp) (by omega)
            have o50_ := k36_.chg hC46_ (by first | omega | (simp; omega) | simp) (by omega)
            have z51_ := hC46_.size
            try simp at z51_
            have B52_ := k33_.trans (hC46_.below (by omega) (by first | omega | (simp; omega) | simp))
            clear hC46_
            go_wp2
            go_roundw
            case rel => exact ⟨j + 1, by go_num, by omega, (by rw [← pieceMid_set (o := v45_) (P := P30_) (by omega) Hv45_.out (piece_yes HNB.out (by omega) Hv42_.out Hv28_.out HQ.out hP30_ h43_)]; exact G48_), B52_, (by first | omega | (simp; omega) | simp), o49_, o50_⟩
            case measure => simp [intOf] <;> omega
          · have h43_d : decide (v42_ ≥ v28_) = false := decide_eq_false h43_
            go_wp2
            go_roundw
            case rel => exact ⟨j + 1, by go_num, by omega, (by rw [← pieceMid_keep (piece_no (by omega) (by omega) Hv42_.out Hv28_.out h43_)]; exact G32_), k33_, (by first | omega | (simp; omega) | simp), k35_, k36_⟩
            case measure => simp [intOf] <;> omega
        · obtain rfl : j = xs.length := by omega
          go_wp2
          go_roundw
          case rel => exact ⟨b + 1, v28_, by go_num, by go_num, by omega, Hv28_.out, (by rw [← pieceMid_all]; exact G32_), k33_, (by first | omega | (simp; omega) | simp), k35_, k36_⟩
          case measure => simp [intOf] <;> omega
    · have HBE : Hid (b = xs.length) := by show _ = _; omega
      have hfin : sharesRow xs = fnRow xs.length (pieceTo xs b) := by rw [piece_all HBE.out, sharesRow_yes HNB.out]
      have HFIN := Lib.hid hfin
      clear hfin
      go_wp2
      go_ret
      rw [HFIN.out]
      (refine retInts_grow G18_ (by omega) ?_ k19_; rw [fnRow_length])

set_option maxRecDepth 10000 in
set_option maxHeartbeats 2000000 in
theorem implRunwayShares_no (A : Option Addr) (c : Nat) (xs : List Int) (w : World) (lo hi : Nat) (h : Ints w lo hi A xs) (hh : hi ≤ w.heap.size) (hl : xs.length ≤ 1000000000) (hb : needB xs = false) :
    Calls Try.prog 23 #[.slice A xs.length c] w (RetInts w (sharesRow xs)) := by
  have HNB := Lib.hid hb
  have hhu := hh
  clear hb
  go_enter Try.func23, Try.ntmps23
  go_wp2_with fail
  refine (implNeeds_same A c xs _ _ _ h (by omega)).mono ?_
  rintro e w' ⟨he, rfl⟩
  rw [HNB.out] at he
  subst he
  go_wp2
  go_ret
  exact retInts_nil (by rw [sharesRow, if_neg (by rw [HNB.out]; simp)]) (Below.refl _ _)

theorem implRunwayShares_any (A : Option Addr) (c : Nat) (xs : List Int) (w : World) (lo hi : Nat) (h : Ints w lo hi A xs) (hh : hi ≤ w.heap.size) (hl : xs.length ≤ 1000000000) :
    Calls Try.prog 23 #[.slice A xs.length c] w (RetInts w (sharesRow xs)) := by
  by_cases hb : needB xs = true
  · exact implRunwayShares_yes A c xs w lo hi h hh hl hb
  · exact implRunwayShares_no A c xs w lo hi h hh hl (by simpa using hb)

/-- What each one pays in an order. -/
def costs10 (xs os : List Int) : List Int := fnRow xs.length (fun i => runTo xs os i xs.length)
theorem costs10_length (xs os : List Int) : (costs10 xs os).length = xs.length := fnRow_length _ _
theorem costs10_rg {xs : List Int} (h : needB xs = true) (os : List Int) (k : Nat) : 0 ≤ (costs10 xs os).getD k 0 ∧ (costs10 xs os).getD k 0 ≤ 2304 := by
  by_cases hk : k < xs.length
  · have e := run_rg (need_rg h) os k xs.length
    have e2 := need_bd h
    rw [costs10, fnRow_getD _ hk]; omega
  · rw [getD_far _ (by rw [costs10_length]; omega)]; omega
theorem run_start (xs os : List Int) (n : Nat) : fnRow n (fun i => runTo xs os i 0) = List.replicate n 0 := fnRow_zero n
theorem pow2_cast {n : Nat} : ((2 ^ n : Nat) : Int) = (2 : Int) ^ n := by rw [Int.natCast_pow]; rfl
theorem pow2_16 {n : Nat} (h : n ≤ 4) : 1 ≤ 2 ^ n ∧ 2 ^ n ≤ 16 := by
  rcases (show n = 0 ∨ n = 1 ∨ n = 2 ∨ n = 3 ∨ n = 4 from by omega) with rfl | rfl | rfl | rfl | rfl <;> simp
theorem come_bit {n : Nat} {y : List Int} {u j x : Nat} (hn : n ≤ 4) (hv : (x : Int) = y.getD j 0) (hx : x < n) (hu : u = comeTo y j) (hb : u < 2 ^ n) : bits .or .i64 (u : Int) (2 ^ x) = ((comeTo y (j + 1) : Nat) : Int) := by
  have e := pow2_16 hn
  have e2 := pow2_16 (n := x) (by omega)
  rw [← pow2_cast, or_i64 u _ (by omega) (by omega), hu]
  show _ = ((comeTo y j ||| 2 ^ (y.getD j 0).toNat : Nat) : Int)
  rw [← hv, Int.toNat_natCast]
theorem come_in {os : List Int} {n p q : Nat} (ho : orderB n os = true) (hp : 2 ^ n = p) (hq : q ≤ n) : comeTo os q < p := by
  rw [← hp]; exact come_lt q fun j hj => (order_at ho (by omega)).2.2
theorem come_long {xs os : List Int} {n q : Nat} (h : ∀ k, 0 ≤ xs.getD k 0 ∧ xs.getD k 0 ≤ 12) (ho : orderB n os = true) (hq : q ≤ n) : costTo xs ((comeTo os q : Nat) : Int) n = longTo xs os q := come_cost h n q fun j hj => (order_at ho (by omega)).2.2

theorem pays_all {ys : List Int} (h : allB 576 ys = true) : PayTo ys ys.length := fun j hj => by
  rw [getD_of_lt ys j hj]; exact (allB_iff _ _).1 h _ (List.getElem_mem hj)
theorem payI_yes {xs ys : List Int} {p m : Nat} (h : needB xs = true) (hl : ys.length = xs.length) (ha : allB 576 ys = true) (hp : 2 ^ xs.length = p) (hs : SetsTo xs ys m) (hm : ¬ m < p) (ht : ys.sum = 48 * costTo xs ((p : Int) - 1) xs.length) : payB xs ys = true := by
  rw [cast_pow10 hp] at ht
  refine payB_yes h hl (pays_all ha) hs (fun q => ?_) (by rw [hl]; exact ht)
  rw [hl, ← cast_pow10 hp] at q
  omega
theorem payI_set {xs ys : List Int} (h : payB xs ys = true) {m p : Nat} (hp : 2 ^ xs.length = p) (hm : m < p) : inSum ys (m : Int) ys.length ≤ 48 * costTo xs (m : Int) xs.length := by
  refine payB_set h ?_
  rw [((payB_iff _ _).1 h).2.1, ← cast_pow10 hp]
  omega
theorem payI_tot {xs ys : List Int} (h : payB xs ys = true) {p : Nat} (hp : 2 ^ xs.length = p) : ys.sum = 48 * costTo xs ((p : Int) - 1) xs.length := by
  have e := payB_tot h
  rw [((payB_iff _ _).1 h).2.1] at e
  rw [cast_pow10 hp]; exact e

set_option maxRecDepth 10000 in
set_option maxHeartbeats 2000000 in
theorem implPays_same (A : Option Addr) (c : Nat) (xs : List Int) (D : Option Addr) (d : Nat) (ys : List Int) (w : World) (lo hi : Nat) (h : Ints w lo hi A xs) (hl : xs.length ≤ 1000000000) (lo' hi' : Nat) (h' : Ints w lo' hi' D ys) (hl' : ys.length ≤ 1000000000) :
    Calls Try.prog 27 #[.slice A xs.length c, .slice D ys.length d] w fun e w' => e = .returned (.bool (payB xs ys)) ∧ w = w' := by
  have hlu := hl'
  go_enter Try.func27, Try.ntmps27
  by_cases h1_ : needB xs = true
  · have H1_ := Lib.hid h1_
    clear h1_
    have hbd := need_bd H1_.out
    obtain ⟨hx1, hx4⟩ := hbd
    have HV := Lib.hid (need_rg H1_.out)
    have HNB := Lib.hid H1_.out
    obtain ⟨p, hp⟩ : ∃ p : Nat, 2 ^ xs.length = p := ⟨_, rfl⟩
    have hpb := pow_bd3 hp hx4
    obtain ⟨hp1, hp2⟩ := hpb
    have HP := Lib.hid hp
    clear hp
    go_wp2_with fail
    refine (implNeeds_same A c xs _ _ _ h (by omega)).mono ?_
    rintro e w' ⟨he, rfl⟩
    rw [H1_.out] at he
    subst he
    by_cases h2_ : (ys.length : Int) = (xs.length : Int)
    · have h2_b : ((ys.length : Int) == (xs.length : Int)) = true := by simpa using h2_
      have h2_n : ((ys.length : Int) != (xs.length : Int)) = false := by simpa using h2_
      have h2_le : (ys.length : Int) ≤ (xs.length : Int) := by omega
      have h2_ge : (xs.length : Int) ≤ (ys.length : Int) := by omega
      have Hh2_ := Lib.hid h2_
      clear h2_
      have HXY : Hid (ys.length = xs.length) := by show _ = _; omega
      have hxy1 : ys.length ≤ xs.length := by have e := HXY.out; omega
      have hxy2 : xs.length ≤ ys.length := by have e := HXY.out; omega
      by_cases h3_ : allB 576 ys = true
      · have H3_ := Lib.hid h3_
        clear h3_
        have HY := Lib.hid (pay_bd (pays_all H3_.out))
        have HSY := Lib.hid (pay_small (by omega) (pays_all H3_.out))
        have HAB := Lib.hid H3_.out
        go_wp2_with fail
        refine (allUpTo_any 576 D d ys _ _ _ h' (by omega)).mono ?_
        rintro e w' ⟨he, rfl⟩
        rw [H3_.out] at he
        subst he
        go_wp2_with fail
        refine (setsOf_is xs.length p _ (by omega) HP.out).mono ?_
        rintro e w' ⟨rfl, rfl⟩
        go_wp2
        go_loop [26] (fun i => ∃ m : Nat, i = .int .i64 m ∧ (m ≤ p) ∧ (SetsTo xs ys m)) (fun i => p - (intOf i).toNat)
        case atStart => exact ⟨0, rfl, Nat.zero_le _, SetsTo.zero xs ys⟩
        case round =>
          obtain ⟨m, rfl, hm, hst⟩ := hrel
          have HST := Lib.hid hst
          clear hst
          by_cases hlt0 : m < p
          · go_wp2_with fail
            refine (sumWithin_any D d ys (m : Int) _ _ _ h' (by omega) (by omega) (by omega) HY.out).mono ?_
            rintro e w' ⟨he, rfl⟩
            obtain ⟨v4_, hv4_⟩ : ∃ v, inSum ys (m : Int) ys.length = v := ⟨_, rfl⟩
            rw [hv4_] at he
            subst he
            have Hv4_ := Lib.hid hv4_
            clear hv4_
            go_wp2_with fail
            refine (implCost_in A c xs (m : Int) _ _ _ h HNB.out HP.out (by omega) (by omega)).mono ?_
            rintro e w' ⟨he, rfl⟩
            obtain ⟨v5_, hv5_⟩ : ∃ v, costTo xs (m : Int) xs.length = v := ⟨_, rfl⟩
            rw [hv5_] at he
            subst he
            have v5_g := cost_rg HV.out (m : Int) xs.length
            rw [hv5_] at v5_g
            obtain ⟨v5_g1, v5_g2⟩ := v5_g
            have Hv5_ := Lib.hid hv5_
            clear hv5_
            by_cases h6_ : v4_ > (48 * v5_)
            · have h6_d : decide (v4_ > (48 * v5_)) = true := decide_eq_true h6_
              go_wp2
              go_ret
              exact ⟨ret_bool (by first | exact (payB_no (fun q => by have e := payI_set q HP.out hlt0; rw [Hv4_.out, Hv5_.out] at e; omega)).symm | exact (decide_eq_true (by omega)).trans (payB_no (fun q => by have e := payI_set q HP.out hlt0; rw [Hv4_.out, Hv5_.out] at e; omega)).symm), rfl⟩
            · have h6_d : decide (v4_ > (48 * v5_)) = false := decide_eq_false h6_
              go_wp2
              go_round
              case rel => exact ⟨m + 1, by go_num, by omega, HST.out.more (by rw [Hv4_.out, Hv5_.out]; omega)⟩
              case measure => simp [intOf] <;> omega
          · go_wp2_with fail
            refine (sumOf_any D d ys _ _ _ h' HSY.out).mono ?_
            rintro e w' ⟨he, rfl⟩
            obtain ⟨v4_, hv4_⟩ : ∃ v, ys.sum = v := ⟨_, rfl⟩
            rw [hv4_] at he
            subst he
            have Hv4_ := Lib.hid hv4_
            clear hv4_
            go_wp2_with fail
            refine (implCost_in A c xs ((p : Int) - 1) _ _ _ h HNB.out HP.out (by omega) (by omega)).mono ?_
            rintro e w' ⟨he, rfl⟩
            obtain ⟨v5_, hv5_⟩ : ∃ v, costTo xs ((p : Int) - 1) xs.length = v := ⟨_, rfl⟩
            rw [hv5_] at he
            subst he
            have v5_g := cost_rg HV.out ((p : Int) - 1) xs.length
            rw [hv5_] at v5_g
            obtain ⟨v5_g1, v5_g2⟩ := v5_g
            have Hv5_ := Lib.hid hv5_
            clear hv5_
            by_cases h6_ : v4_ = (48 * v5_)
            · have h6_b : (v4_ == (48 * v5_)) = true := by simpa using h6_
              have h6_n : (v4_ != (48 * v5_)) = false := by simpa using h6_
              have h6_le : v4_ ≤ (48 * v5_) := by omega
              have h6_ge : (48 * v5_) ≤ v4_ := by omega
              have Hh6_ := Lib.hid h6_
              clear h6_
              go_wp2
              go_ret
              exact ⟨ret_bool (by first | exact (payI_yes HNB.out HXY.out HAB.out HP.out HST.out (by omega) (by rw [Hv4_.out, Hv5_.out]; exact Hh6_.out)).symm | exact h6_b.trans (payI_yes HNB.out HXY.out HAB.out HP.out HST.out (by omega) (by rw [Hv4_.out, Hv5_.out]; exact Hh6_.out)).symm), rfl⟩
            · have h6_b : (v4_ == (48 * v5_)) = false := by simpa using h6_
              have h6_n : (v4_ != (48 * v5_)) = true := by simpa using h6_
              go_wp2
              go_ret
              exact ⟨ret_bool (by first | exact (payB_no (fun q => h6_ (by have e := payI_tot q HP.out; rw [Hv4_.out, Hv5_.out] at e; exact e))).symm | exact h6_b.trans (payB_no (fun q => h6_ (by have e := payI_tot q HP.out; rw [Hv4_.out, Hv5_.out] at e; exact e))).symm), rfl⟩
      · have H3_ : Hid (allB 576 ys = false) := by show _ = _; simpa using h3_
        clear h3_
        go_wp2_with fail
        refine (allUpTo_any 576 D d ys _ _ _ h' (by omega)).mono ?_
        rintro e w' ⟨he, rfl⟩
        rw [H3_.out] at he
        subst he
        go_wp2
        go_ret
        exact ⟨ret_bool (by first | exact (payB_no (fun q => by have e := (allB_iff _ _).2 ((payB_iff _ _).1 q).2.2.1; rw [H3_.out] at e; cases e)).symm | exact h2_n.trans (payB_no (fun q => by have e := (allB_iff _ _).2 ((payB_iff _ _).1 q).2.2.1; rw [H3_.out] at e; cases e)).symm), rfl⟩
    · have h2_b : ((ys.length : Int) == (xs.length : Int)) = false := by simpa using h2_
      have h2_n : ((ys.length : Int) != (xs.length : Int)) = true := by simpa using h2_
      go_wp2
      go_ret
      exact ⟨ret_bool (by first | exact (payB_no (fun q => h2_ (by have e := ((payB_iff _ _).1 q).2.1; omega))).symm | exact h2_n.trans (payB_no (fun q => h2_ (by have e := ((payB_iff _ _).1 q).2.1; omega))).symm), rfl⟩
  · have H1_ : Hid (needB xs = false) := by show _ = _; simpa using h1_
    clear h1_
    go_wp2_with fail
    refine (implNeeds_same A c xs _ _ _ h (by omega)).mono ?_
    rintro e w' ⟨he, rfl⟩
    rw [H1_.out] at he
    subst he
    go_wp2
    go_ret
    exact ⟨ret_bool (payB_no (fun q => by have e := ((payB_iff _ _).1 q).1; rw [H1_.out] at e; cases e)).symm, rfl⟩

theorem implPaysOk_any (A : Option Addr) (c : Nat) (xs : List Int) (D : Option Addr) (d : Nat) (ys : List Int) (w : World) (lo hi : Nat) (h : Ints w lo hi A xs) (_hh : hi ≤ w.heap.size) (hl : xs.length ≤ 1000000000) (lo' hi' : Nat) (h' : Ints w lo' hi' D ys) (_hh' : hi' ≤ w.heap.size) (hl' : ys.length ≤ 1000000000) :
    Calls Try.prog 27 #[.slice A xs.length c, .slice D ys.length d] w (fun e w' => e = .returned (.bool (payB xs ys)) ∧ Below w.heap.size w w') := (implPays_same A c xs D d ys w lo hi h hl lo' hi' h' hl').mono fun _ _ ⟨e, r⟩ => ⟨e, r ▸ Below.refl _ _⟩


end Go.Proofs.Ytbegdcnljafloaa
