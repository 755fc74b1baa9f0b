/-
  Whether a row is at least as even as another one, as the program finds it. No condition but small numbers.
-/
import Derived.Test.YtmkmipgboecdaaaWide
import Derived.Test.YtmkmipgboecdaaaGE
import Derived.Deep.RegionLaw
namespace Go.Proofs.Ytmkmipgboecdaaa
open Go.RowKit

noncomputable def moreB (a b : List Int) : Bool := @decide (More a b) (Classical.propDecidable _)
theorem moreB_iff (a b : List Int) : moreB a b = true ↔ More a b := by simp [moreB]
theorem moreB_false {a b : List Int} (h : ¬ More a b) : moreB a b = false := by simp [moreB, h]
theorem srt_small {xs : List Int} (h : Small xs) (k : Nat) (hk : k < (srt xs).length) : -1000000 ≤ (srt xs)[k] ∧ (srt xs)[k] ≤ 1000000 := h.2 _ (mem_srt.1 (List.getElem_mem hk))
/-- What the loop keeps: what the least numbers of the first row have more, and that it is never less. -/
def Lead (a b : List Int) (k : Nat) (P : Int) : Prop := P = ((srt a).take k).sum - ((srt b).take k).sum ∧ (∀ j, j ≤ k → ((srt b).take j).sum ≤ ((srt a).take j).sum) ∧ -(2000000 * (k : Int)) ≤ P ∧ P ≤ 2000000 * (k : Int)
theorem lead_0 (a b : List Int) : Lead a b 0 0 := ⟨by simp, fun j hj => by
  have e : j = 0 := by omega
  subst e
  simp, by omega, by omega⟩
theorem lead_next {a b : List Int} {k : Nat} {P : Int} (h : Lead a b k P) (ha : Small a) (hb : Small b) (hk : k < (srt a).length) (hk' : k < (srt b).length) (hP : 0 ≤ P + (srt a)[k] - (srt b)[k]) : Lead a b (k + 1) (P + (srt a)[k] - (srt b)[k]) := by
  obtain ⟨h1, h2, h3, h4⟩ := h
  have s1 := srt_small ha k hk
  have s2 := srt_small hb k hk'
  have e1 := sum_snoc (srt a) k hk
  have e2 := sum_snoc (srt b) k hk'
  refine ⟨by omega, fun j hj => ?_, by omega, by omega⟩
  rcases Nat.lt_or_ge j (k + 1) with h5 | h5
  · exact h2 j (by omega)
  · obtain rfl : j = k + 1 := by omega
    omega
theorem lead_stop {a b : List Int} {k : Nat} {P : Int} (h : Lead a b k P) (hl : a.length = b.length) (hk : k < (srt a).length) (hk' : k < (srt b).length) (hP : P + (srt a)[k] - (srt b)[k] < 0) : moreB a b = false := moreB_false fun hm => by
  have e1 := sum_snoc (srt a) k hk
  have e2 := sum_snoc (srt b) k hk'
  have := hm.2.2.2.2 (k + 1) (by rw [srt_length] at hk; omega)
  have := h.1
  omega
theorem lead_end {a b : List Int} {P : Int} (h : Lead a b (srt a).length P) (hl : a.length = b.length) (h1 : 1 ≤ a.length) (h4 : a.length ≤ 4) : moreB a b = decide (P = 0) := by
  have e1 : ((srt a).take (srt a).length).sum = a.sum := by rw [List.take_length, srt_sum]
  have e2 : ((srt b).take (srt a).length).sum = b.sum := by
    have : (srt a).length = (srt b).length := by rw [srt_length, srt_length, hl]
    rw [this, List.take_length, srt_sum]
  have hp := h.1
  rw [e1, e2] at hp
  by_cases h0 : P = 0
  · rw [(moreB_iff a b).2 ⟨hl, h1, h4, by omega, fun k hk => h.2.1 k (by rw [srt_length]; exact hk)⟩]
    simp [h0]
  · rw [moreB_false fun hm => h0 (by have := hm.2.2.2.1; omega)]
    simp [h0]

set_option maxRecDepth 10000 in
set_option maxHeartbeats 2000000 in
theorem implMoreEven_main (A : Option Addr) (c : Nat) (a : List Int) (D : Option Addr) (d : Nat) (b : List Int) (w : World) (lo hi : Nat) (h : Ints w lo hi A a) (hh : hi ≤ w.heap.size) (lo' hi' : Nat) (h' : Ints w lo' hi' D b) (hh' : hi' ≤ w.heap.size) (ha : Small a) (hb : Small b)
    (hl : a.length = b.length) (h1 : 1 ≤ a.length) (h4 : a.length ≤ 4) :
    Calls Try.prog 45 #[.slice A a.length c, .slice D b.length d] w fun e w' => e = .returned (.bool (moreB a b)) ∧ Below w.heap.size w w' := by
  have HA := Lib.hid ha
  have HB := Lib.hid hb
  have HLA := Lib.hid (srt_length a)
  have HLB := Lib.hid (srt_length b)
  have hll : ((a.length : Int) != (b.length : Int)) = false := by rw [hl]; simp
  have h1b : 1 ≤ b.length := by omega
  have h4b : b.length ≤ 4 := by omega
  have HL := Lib.hid hl
  clear ha hb hl
  go_enter Try.func45, Try.ntmps45
  go_wp2_with fail
  refine (ascending_any A c a _ lo hi h hh (by omega) (by omega)).mono ?_
  rintro e w1 ⟨A1, c1, rfl, ho1, hb1⟩
  have q1 := h'.below hb1 hh'
  have z1 := hb1.size
  go_wp2_with fail
  refine (ascending_any D d b _ lo' hi' q1 (by omega) (by omega) (by omega)).mono ?_
  rintro e w2 ⟨A2, c2, rfl, ho2, hb2⟩
  have z2 := hb2.size
  have k2 := ho1.ints.below hb2 (Nat.le_refl _)
  have q2 := ho2.ints
  have H2 := Lib.hid (hb1.trans (hb2.mono z1))
  have bx := Box.new w2 (.int .i64 0) (.int .i64 0) 74
  have ch0 : Chg w2.heap.size (w2.heap.size + 1) w2 (w2.alloc (.cells #[.int .i64 0, .int .i64 0] 74)) := Chg.alloc _ _
  clear ho1 ho2 hb1 hb2 h h' q1
  go_wp2
  go_loopw [30] (fun i wr => ∃ k : Nat, ∃ P : Int, k ≤ (srt a).length ∧ i = .int .i64 k ∧ Lead a b k P ∧ Box wr w2.heap.size (.int .i64 (P / 4294967296)) (.int .i64 (P % 4294967296)) ∧ Below w2.heap.size w2 wr) (fun i _ => (srt a).length - (intOf i).toNat)
  case atStart => exact ⟨0, 0, Nat.zero_le _, rfl, lead_0 a b, bx, (Below.refl _ _).alloc (Nat.le_refl _) _⟩
  case round =>
    obtain ⟨k, P, hk, rfl, hL, bo, hbl⟩ := hrel
    obtain ⟨wo, rfl⟩ : ∃ x, x = wr := ⟨_, rfl⟩
    clear bx ch0
    have zo := hbl.size
    have bolt := bo.lt
    by_cases hlt : k < (srt a).length
    · have hlt' : k < (srt b).length := by rw [HLB.out, ← HL.out, ← HLA.out]; exact hlt
      obtain ⟨b1, o1, rfl, _, hb1, hc1⟩ := (k2.below hbl z2).at_ hlt
      obtain ⟨b2, o2, rfl, _, hb2, hc2⟩ := (q2.below hbl (Nat.le_refl _)).at_ hlt'
      have s1 := srt_small HA.out k hlt
      have s2 := srt_small HB.out k hlt'
      have hpb := hL.2.2
      have HN := Lib.hid (fun h0 => lead_next hL HA.out HB.out hlt hlt' h0)
      have HS := Lib.hid (fun h0 => lead_stop hL HL.out hlt hlt' h0)
      have hka : k < a.length := by rw [← HLA.out]; exact hlt
      clear hL
      generalize (srt a)[k] = x at hc1 s1 HN HS
      generalize (srt b)[k] = y at hc2 s2 HN HS
      obtain ⟨c0, c0'⟩ := And.intro bo.c0 bo.c1
      have hk0 : (0 : Int) ≤ (k : Int) := by omega
      have hk1 : (k : Int) < ((srt a).length : Int) := by omega
      have hk2 : (k : Int) < ((srt b).length : Int) := by omega
      go_wp2_with fail
      go_region_law (first
        | (go_simp
           go_at_call 85
           (with_reducible refine (plus_any P x _ (by omega) (by omega)).mono ?_)
           rintro e w3 ⟨rfl, hb3'⟩
           have hb3 : Below wo.heap.size wo w3 := (Below.refl _ wo).drew.trans (hb3'.mono (by exact Nat.le_refl _))
           have b3 := bo.below hb3 bolt
           have d2 : w3.cell? ⟨b2, o2 + k, none⟩ = some (.int .i64 y) := (hb3.cell (by show b2 < _; omega)).trans hc2
           have z3 := hb3.size
           have hbl3 := hbl.trans (hb3.mono (by omega)))
        | (go_simp
           go_at_call 86
           (with_reducible refine (minus_any (P + x) y _ (by omega) (by omega)).mono ?_)
           rintro e w4 ⟨rfl, hb4⟩
           have b4 := b3.below hb4 (by omega)
           have hbl4 := hbl3.trans (hb4.mono (by omega))
           obtain ⟨e0, e1⟩ := And.intro b4.c0 b4.c1
           obtain ⟨f0, f1⟩ := And.intro b4.f0 b4.f1))
      all_goals
        have b5 := (b4.set0 (.int .i64 ((P + x - y) / 4294967296))).set1 (.int .i64 ((P + x - y) % 4294967296))
        have hbl5 := (hbl4.setCell (p := ⟨w2.heap.size, 0, none⟩) (Nat.le_refl _) (.int .i64 ((P + x - y) / 4294967296))).setCell (p := ⟨w2.heap.size, 1, none⟩) (Nat.le_refl _) (.int .i64 ((P + x - y) % 4294967296))
        obtain ⟨g0, g1⟩ := And.intro b5.c0 b5.c1
        by_cases hP : 0 ≤ P + x - y
        · have H := Lib.hid (And.intro (HN.out hP) (And.intro b5 hbl5))
          have hge : ¬ ((P + x - y) / 4294967296 < 0) := by omega
          clear b5 hbl5 b4 hbl4 b3 hbl3 hb3 hb3' hb4 bo hbl
          go_wp2
          go_roundw
          case rel => exact ⟨k + 1, P + x - y, by omega, by go_num, H.out.1, H.out.2.1, H.out.2.2⟩
          case measure => simp [intOf]; omega
        · have HF := Lib.hid (HS.out (by omega))
          have hlt0 : (P + x - y) / 4294967296 < 0 := by omega
          have H := Lib.hid (H2.out.trans (hbl5.mono (by omega)))
          clear b5 hbl5 b4 hbl4 b3 hbl3 hb3 hb3' hb4 bo hbl
          go_wp2
          go_ret
          exact ⟨ret_bool HF.out.symm, H.out⟩
    · obtain rfl : k = (srt a).length := by omega
      have HE := Lib.hid (lead_end hL HL.out h1 h4)
      have H := Lib.hid (H2.out.trans (hbl.mono (by omega)))
      obtain ⟨c0, c0'⟩ := And.intro bo.c0 bo.c1
      clear hL bo hbl
      by_cases hP : P = 0
      · have e0 : P / 4294967296 = 0 := by omega
        have e1 : P % 4294967296 = 0 := by omega
        rw [e0] at c0
        rw [e1] at c0'
        have HF : Hid (moreB a b = true) := by show _ = _; rw [HE.out]; simp [hP]
        clear e0 e1 hP
        go_wp2
        go_ret
        exact ⟨ret_bool HF.out.symm, H.out⟩
      · have HF : Hid (moreB a b = false) := by show _ = _; rw [HE.out]; simp [hP]
        by_cases e0 : P / 4294967296 = 0
        · have e1 : P % 4294967296 ≠ 0 := by omega
          rw [e0] at c0
          generalize P % 4294967296 = m at c0' e1
          clear e0 hP
          go_wp2
          go_ret
          exact ⟨ret_bool (by rw [HF.out]), H.out⟩
        · generalize P / 4294967296 = m at c0 e0
          generalize P % 4294967296 = m' at c0'
          clear hP
          go_wp2
          go_ret
          exact ⟨ret_bool (by rw [HF.out]), H.out⟩

set_option maxRecDepth 10000 in
set_option maxHeartbeats 400000 in
theorem implMoreEven_off (A : Option Addr) (c : Nat) (a : List Int) (D : Option Addr) (d : Nat) (b : List Int) (w : World) (hla : a.length ≤ 1152921504606846976) (hn : ¬ (a.length = b.length ∧ 1 ≤ a.length ∧ a.length ≤ 4)) :
    Calls Try.prog 45 #[.slice A a.length c, .slice D b.length d] w fun e w' => e = .returned (.bool (moreB a b)) ∧ Below w.heap.size w w' := by
  have HF : Hid (moreB a b = false) := moreB_false fun h => hn ⟨h.1, h.2.1, h.2.2.1⟩
  by_cases hl : a.length = b.length
  · have hll : ((a.length : Int) != (b.length : Int)) = false := by rw [hl]; simp
    have h5 : ¬ (1 ≤ a.length ∧ a.length ≤ 4) := fun h => hn ⟨hl, h⟩
    clear hn hl
    by_cases h1 : 1 ≤ a.length
    · have h4 : ¬ a.length ≤ 4 := fun h => h5 ⟨h1, h⟩
      clear h5
      go_enter Try.func45, Try.ntmps45
      go_wp2
      go_ret
      exact ⟨ret_bool HF.out.symm, Below.refl _ _⟩
    · clear h5
      go_enter Try.func45, Try.ntmps45
      go_wp2
      go_ret
      exact ⟨ret_bool HF.out.symm, Below.refl _ _⟩
  · have hll : ((a.length : Int) != (b.length : Int)) = true := by rw [bne_iff_ne]; omega
    clear hn hl
    go_enter Try.func45, Try.ntmps45
    go_wp2
    go_ret
    exact ⟨ret_bool HF.out.symm, Below.refl _ _⟩

theorem implMoreEven_any (A : Option Addr) (c : Nat) (a : List Int) (D : Option Addr) (d : Nat) (b : List Int) (w : World) (lo hi : Nat) (h : Ints w lo hi A a) (hh : hi ≤ w.heap.size) (lo' hi' : Nat) (h' : Ints w lo' hi' D b) (hh' : hi' ≤ w.heap.size) (ha : Small a) (hb : Small b) :
    Calls Try.prog 45 #[.slice A a.length c, .slice D b.length d] w fun e w' => e = .returned (.bool (moreB a b)) ∧ Below w.heap.size w w' := by
  have l1 := ha.1
  have l2 := hb.1
  by_cases hn : a.length = b.length ∧ 1 ≤ a.length ∧ a.length ≤ 4
  · exact implMoreEven_main A c a D d b w lo hi h hh lo' hi' h' hh' ha hb hn.1 hn.2.1 hn.2.2
  · exact implMoreEven_off A c a D d b w (by omega) hn

end Go.Proofs.Ytmkmipgboecdaaa
