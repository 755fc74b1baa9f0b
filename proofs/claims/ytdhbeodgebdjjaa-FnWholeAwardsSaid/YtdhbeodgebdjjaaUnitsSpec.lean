/-
  The given package's functions WholeAwards and WholeShares return the whole units of a row, and make new memory only. No condition.
-/
import Derived.Test.YtdhbeodgebdjjaaWhole
import Derived.Test.YtdhbeodgebdjjaaSpecEven
import Derived.Test.YtdhbeodgebdjjaaShareRow
import Derived.Test.YtdhbeodgebdjjaaUnits
import Derived.Deep.AppendLies
namespace Go.Proofs.Ytdhbeodgebdjjaa
open Go.RowKit

theorem own_row {w : World} {B : Nat} {e : TypeId} {g n c : Nat} {R : List Int} (h : w.ownsRow B e 1 (.slice (some ⟨g, 0, none⟩) n c) n (ints R)) (hn : R.length = n) : Own w g (g + 1) (some ⟨g, 0, none⟩) R := by
  subst hn
  obtain ⟨A, c', e1, _, ho⟩ := own_of_row h
  injection e1 with e1 _ _
  subst e1
  exact ho.just
theorem row_keep {w w' : World} {B : Nat} {e : TypeId} {k : Nat} {v : Value} {n : Nat} {xs : List Value} (h : w.ownsRow B e k v n xs) (hb : Below w.heap.size w w') : w'.ownsRow B e k v n xs :=
  h.kept (row := none) ⟨hb.os, hb.tape, hb.output, hb.size, fun i hi _ => hb.block i hi⟩ (by cases hv : v.ownBlock <;> simp)
theorem row_more {w : World} {B : Nat} {e : TypeId} {v : Value} {R : List Int} {k : Nat} (hk : k < R.length) (V : Int) (hV : R.getD k 0 = V) (h : w.ownsRow B e 1 v (k + 1) (ints (R.take k) ++ [.int .i64 V])) : w.ownsRow B e 1 v (k + 1) (ints (R.take (k + 1))) := by
  have e1 := append_one (R := R) (k := k) hk V (by rw [← getD_of_lt R k hk]; exact hV) rfl h
  have e2 : (R.take (k + 1)).length = k + 1 := by rw [List.length_take]; omega
  rw [e2] at e1
  exact e1
theorem shares_sum {E : Int} {xs : List Int} (h : caseOkB E xs = true) {d : Int} (hd : d = max 1 xs.sum) : (shareRow E xs).sum = d * E := by
  have hb := caseOk_bd h
  have e : ∀ zs : List Int, (zs.map fun x => x * E).sum = zs.sum * E := fun zs => by
    induction zs with
    | nil => simp
    | cons z r ih => simp only [List.map_cons, List.sum_cons, ih, Int.add_mul]
  rw [shareRow, e, hd]
  rcases Int.lt_or_le xs.sum 1 with h1 | h1
  · have e0 : E = 0 := by omega
    rw [e0]; simp
  · have e1 : max 1 xs.sum = xs.sum := by omega
    rw [e1]
theorem sum_more (E : Int) (R : List Int) (k : Nat) (hk : k < R.length) (V : Int) (hV : R.getD k 0 = V) : E - (R.take k).sum - V = E - (R.take (k + 1)).sum := by
  rw [sum_snoc R k hk, ← getD_of_lt R k hk, hV]; omega


set_option maxRecDepth 10000 in
set_option maxHeartbeats 400000 in
theorem specWholeAwards_no (E : Int) (A : Option Addr) (c : Nat) (xs : List Int) (Da : Option Addr) (d : Nat) (ys : List Int) (w : World) (lo hi : Nat) (h : Ints w lo hi A xs) (hh : hi ≤ w.heap.size) (hl : xs.length ≤ 1152921504606846976)
    (lo' hi' : Nat) (h' : Ints w lo' hi' Da ys) (hh' : hi' ≤ w.heap.size) (hl' : ys.length ≤ 1152921504606846976) (hok : awardsB E xs ys = false) :
    Calls Try.prog 30 #[.agg #[.int .i64 E, .slice A xs.length c], .slice Da ys.length d] w (RetInts w []) := by
  have HO := Lib.hid hok
  clear hok
  have k0 := (h.alloc hh (.cells #[.int .i64 E, .slice A xs.length c] 25)).alloc (by rw [hsz]; omega) (.cells #[] 3)
  have q0 := (h'.alloc hh' (.cells #[.int .i64 E, .slice A xs.length c] 25)).alloc (by rw [hsz]; omega) (.cells #[] 3)
  have B0 := ((Below.refl w.heap.size w).alloc (Nat.le_refl _) (.cells #[.int .i64 E, .slice A xs.length c] 25)).alloc (by rw [hsz]; omega) (.cells #[] 3)
  go_enter Try.func30, Try.ntmps30
  go_wp2_with fail
  refine (specAwardsOk_any E A c xs Da d ys _ _ _ k0 (by rw [hsz, hsz]; omega) hl _ _ q0 (by rw [hsz, hsz]; omega) hl').mono ?_
  rintro e w1 ⟨he1, hb1⟩
  rw [HO.out] at he1
  subst he1
  rw [hsz, hsz] at hb1
  have B1 := B0.trans (hb1.mono (by omega))
  have hz := hb1.size
  rw [hsz, hsz] at hz
  clear hb1
  go_wp2
  go_ret
  exact ⟨some ⟨w.heap.size + 1, 0, none⟩, 0, rfl, Own.nil, B1⟩

set_option maxRecDepth 10000 in
set_option maxHeartbeats 4000000 in
theorem specWholeAwards_yes (E : Int) (A : Option Addr) (c : Nat) (xs : List Int) (Da : Option Addr) (d : Nat) (ys : List Int) (w : World) (lo hi : Nat) (h : Ints w lo hi A xs) (hh : hi ≤ w.heap.size) (hl : xs.length ≤ 1152921504606846976)
    (lo' hi' : Nat) (h' : Ints w lo' hi' Da ys) (hh' : hi' ≤ w.heap.size) (hl' : ys.length ≤ 1152921504606846976) (hok : awardsB E xs ys = true) :
    Calls Try.prog 30 #[.agg #[.int .i64 E, .slice A xs.length c], .slice Da ys.length d] w (RetInts w (wholeRow 48 E ys)) := by
  obtain ⟨i0, hi0, hz0, hz1, hz2⟩ := info_parts info_int
  have hA := (awardsB_iff E xs ys).1 hok
  have hbd := caseOk_bd hA.1
  have hy4 : ys.length ≤ 4 := by have e := hA.2.1; omega
  have hy1 : 1 ≤ ys.length := by have e := hA.2.1; omega
  have HV := Lib.hid (aw_range hA.1 hA.2.1 hA.2.2.1)
  have HS : Hid (ys.sum = 48 * E) := hA.2.2.2
  have HO := Lib.hid hok
  clear hok hA
  obtain ⟨R1, hR1⟩ : ∃ R, R = quos 48 ys := ⟨_, rfl⟩
  obtain ⟨R2, hR2⟩ : ∃ R, R = negs 48 ys := ⟨_, rfl⟩
  have H1 : Hid (R1.length = ys.length) := by show _ = _; rw [hR1, quos_length]
  have H2 : Hid (R2.length = ys.length) := by show _ = _; rw [hR2, negs_length]
  have G1 : Hid (∀ k, k < ys.length → R1.getD k 0 = ys.getD k 0 / 48) := fun k hk => by rw [hR1, quos_getD 48 ys k (by exact hk)]
  have G2 : Hid (∀ k, k < ys.length → R2.getD k 0 = -(ys.getD k 0 % 48)) := fun k hk => by rw [hR2, negs_getD 48 ys k (by exact hk)]
  have HL : Hid (0 ≤ E - R1.sum ∧ E - R1.sum ≤ ys.length) := by show _ ∧ _; rw [hR1]; have e := left_len (b := 48) (E := E) (ys := ys) (by omega) HS.out; exact e
  have HR1 := Lib.hid hR1
  have HR2 := Lib.hid hR2
  have hS1 : Small R1 := ⟨by rw [H1.out]; omega, fun x hx => by
    obtain ⟨i, hi, rfl⟩ := List.mem_iff_getElem.1 hx
    have hi' : i < ys.length := by rw [← H1.out]; exact hi
    rw [← getD_of_lt R1 i hi, G1.out i hi']
    have e1 := by have e := HV.out _ (List.getElem_mem hi'); rw [← getD_of_lt ys i hi'] at e; exact e
    have e2 := Int.ediv_nonneg e1.1 (show (0 : Int) ≤ 48 by omega)
    have e3 := Int.ediv_le_self 48 e1.1
    omega⟩
  have HSM := Lib.hid hS1
  clear hR1 hR2 hS1
  have k0 := (h.alloc hh (.cells #[.int .i64 E, .slice A xs.length c] 25)).alloc (by rw [hsz]; omega) (.cells #[] 3)
  have q0 := (h'.alloc hh' (.cells #[.int .i64 E, .slice A xs.length c] 25)).alloc (by rw [hsz]; omega) (.cells #[] 3)
  have a0 := new2 w (.int .i64 E) (.slice A xs.length c) 25
  have a0' := keep2 ((Below.refl (w.heap.size + 1) (w.alloc (.cells #[.int .i64 E, .slice A xs.length c] 25))).alloc (by rw [hsz]; exact Nat.le_refl _) (.cells #[] 3)) a0 (by omega)
  have B0 := ((Below.refl w.heap.size w).alloc (Nat.le_refl _) (.cells #[.int .i64 E, .slice A xs.length c] 25)).alloc (by rw [hsz]; omega) (.cells #[] 3)
  have o0 : ((w.alloc (.cells #[.int .i64 E, .slice A xs.length c] 25)).alloc (.cells #[] 3)).ownsRow (w.heap.size + 1) 3 1 (.slice (some ⟨w.heap.size + 1, 0, none⟩) 0 0) 0 (ints (R1.take 0)) := by
    have e := World.ownsRow_made (base := w.heap.size + 1) (e := 3) (size := 1) (w.alloc (.cells #[.int .i64 E, .slice A xs.length c] 25)) #[] 0 (by rw [hsz]; exact Nat.le_refl _) (by unfold maxLen; omega) rfl
    rw [hsz] at e; exact e
  clear a0
  go_enter Try.func30, Try.ntmps30
  go_wp2_with fail
  refine (specAwardsOk_any E A c xs Da d ys _ _ _ k0 (by rw [hsz, hsz]; omega) hl _ _ q0 (by rw [hsz, hsz]; omega) hl').mono ?_
  rintro e w1 ⟨he1, hb1⟩
  rw [HO.out] at he1
  subst he1
  obtain ⟨a1, a1'⟩ := keep2 hb1 a0' (by rw [hsz, hsz]; omega)
  have o1 := row_keep o0 hb1
  have k1 := k0.below hb1 (by rw [hsz, hsz]; omega)
  have q1 := q0.below hb1 (by rw [hsz, hsz]; omega)
  rw [hsz, hsz] at hb1
  have z1 := hb1.size
  rw [hsz, hsz] at z1
  have B1 := B0.trans (hb1.mono (by omega))
  have r1 : (w1.alloc (.cells #[] 3)).ownsRow (w.heap.size + 1) 3 1 (.slice (some ⟨w1.heap.size, 0, none⟩) 0 0) 0 (ints (R2.take 0)) := own_lower (World.ownsRow_made w1 #[] 0 (Nat.le_refl _) (by unfold maxLen; omega) rfl) (by omega)
  have o2 := o1.alloc (.cells #[] 3)
  have b2 := (Below.refl w1.heap.size w1).alloc (Nat.le_refl _) (.cells #[] 3)
  have z2 : (w1.alloc (.cells #[] 3)).heap.size = w1.heap.size + 1 := hsz _ _
  obtain ⟨a2, a2'⟩ := keep2 b2 ⟨a1, a1'⟩ (by omega)
  have hS0 : (E : Int) = E - (R1.take 0).sum := by simp
  have HS0 := Lib.hid hS0
  clear hS0 hb1 a0' k0 h h' q0 B0 o0 o1
  go_wp2
  go_loopw [5, 6, 7, 8] (fun v1 v2 l i wr => ∃ k g1 c1 g2 c2 : Nat, k ≤ ys.length ∧ i = .int .i64 k ∧ v1 = .slice (some ⟨g1, 0, none⟩) k c1 ∧ v2 = .slice (some ⟨g2, 0, none⟩) k c2 ∧ g1 ≠ g2 ∧ wr.ownsRow (w.heap.size + 1) 3 1 v1 k (ints (R1.take k)) ∧ wr.ownsRow (w.heap.size + 1) 3 1 v2 k (ints (R2.take k)) ∧ (∃ l', l = .int .i64 l' ∧ l' = E - (R1.take k).sum) ∧ Below (w.heap.size + 1) w1 wr ∧ w1.heap.size ≤ wr.heap.size) (fun _ _ _ i _ => ys.length - (intOf i).toNat)
  case atStart => exact ⟨0, w.heap.size + 1, 0, w1.heap.size, 0, Nat.zero_le _, rfl, rfl, rfl, by omega, o2, r1, ⟨E, rfl, HS0.out⟩, b2.mono (by omega), by omega⟩
  case round =>
    obtain ⟨k, g1, c1, g2, c2, hk, rfl, rfl, rfl, hne, ho1, ho2, ⟨l', rfl, hl'⟩, hbel, hzr⟩ := hrel
    clear o2 r1 b2 z2
    have HL' := Lib.hid hl'
    have hlb := sum_bd R1 HSM.out k
    by_cases hlt : k < ys.length
    · obtain ⟨b, o, rfl, _, hbh, hc⟩ := (q1.below hbel (by omega)).at_ hlt
      have hv := HV.out _ (List.getElem_mem hlt)
      have e1 := G1.out k hlt
      have e2 := G2.out k hlt
      rw [getD_of_lt ys k hlt] at e1 e2
      generalize ys[k] = y at hc hv e1 e2
      have hq0 : 0 ≤ y / 48 ∧ y / 48 ≤ y := ⟨Int.ediv_nonneg hv.1 (by omega), Int.ediv_le_self _ hv.1⟩
      have hr0 : 0 ≤ y % 48 ∧ y % 48 < 48 := ⟨Int.emod_nonneg _ (by omega), Int.emod_lt_of_pos _ (by omega)⟩
      have hwr : IntKind.i64.wrap (-(y % 48)) = -(y % 48) := IntWalk.i64_in _ (by omega)
      have hwl : IntKind.i64.wrap (l' - y / 48) = l' - y / 48 := IntWalk.i64_in _ (by have := HL'.out; omega)
      have hg1 := ho1.lt g1 rfl
      have hg2 := ho2.lt g2 rfl
      have hA1 := ho1.alloc (.cells #[.int .i64 (y / 48)] 3)
      have hs1 : (wr.alloc (.cells #[.int .i64 (y / 48)] 3)).heap.size = wr.heap.size + 1 := hsz _ _
      have HE1 := Lib.hid e1
      have HE2 := Lib.hid e2
      clear e1 e2 hl'
      go_wp2_with (first
        | (at_builtin; (
           refine wpList_append_lies _ rfl (.tmp 26) (.tmp 32) 23 rfl (w.heap.size + 1) 3 i0 (.int .i64 0) 1 8 Try.underlying23 hi0 hz0 hz1 hz2 rfl (by decide) _ k _ rfl hA1 ⟨wr.heap.size, 0, none⟩ 1 1 [.int .i64 (y / 48)] rfl rfl (news_one _ _ _) (one_cell _) (by omega) (by unfold maxLen; omega) (by omega) (by omega) (wr.heap.size + 1) hs1 ?_
           intro ga ca wa hown1 hgrow1 hat1 hlt1
           have hneA : g2 ≠ ga := by
             rcases hat1 with e | e
             · have e' : g1 = ga := Option.some.inj e
               omega
             · omega
           have hA2 := ((ho2.alloc (.cells #[.int .i64 (y / 48)] 3)).kept hgrow1 (.inr (fun e => hne (Option.some.inj e).symm))).alloc (.cells #[.int .i64 (-(y % 48))] 3)
           have hbA : Below (w.heap.size + 1) wr wa := ((Below.refl (w.heap.size + 1) wr).alloc (by omega) (.cells #[.int .i64 (y / 48)] 3)).grown hgrow1 (by omega) (fun g hg => by have e' : g1 = g := Option.some.inj hg; omega)
           have zA : wr.heap.size + 1 ≤ wa.heap.size := by have e := hgrow1.size; rw [hs1] at e; exact e
           have hcA : wa.cell? ⟨b, o + k, none⟩ = some (.int .i64 y) := (hbA.cell (by show b < _; omega)).trans hc
           have hs2 : (wa.alloc (.cells #[.int .i64 (-(y % 48))] 3)).heap.size = wa.heap.size + 1 := hsz _ _))
        | (at_builtin; (
           refine wpList_append_lies _ rfl (.tmp 34) (.tmp 41) 23 rfl (w.heap.size + 1) 3 i0 (.int .i64 0) 1 8 Try.underlying23 hi0 hz0 hz1 hz2 rfl (by decide) _ k _ rfl hA2 ⟨wa.heap.size, 0, none⟩ 1 1 [.int .i64 (-(y % 48))] rfl rfl (news_one _ _ _) (one_cell _) (by omega) (by unfold maxLen; omega) (by omega) (by omega) (wa.heap.size + 1) hs2 ?_
           intro gb cb wb hown2 hgrow2 hat2 hlt2
           have hneB : ga ≠ gb := by
             rcases hat2 with e | e
             · have e' : g2 = gb := Option.some.inj e
               omega
             · omega
           have hbB : Below (w.heap.size + 1) wa wb := ((Below.refl (w.heap.size + 1) wa).alloc (by omega) (.cells #[.int .i64 (-(y % 48))] 3)).grown hgrow2 (by omega) (fun g hg => by have e' : g2 = g := Option.some.inj hg; omega)
           have zB : wa.heap.size + 1 ≤ wb.heap.size := by have e := hgrow2.size; rw [hs2] at e; exact e
           have hcB : wb.cell? ⟨b, o + k, none⟩ = some (.int .i64 y) := (hbB.cell (by show b < _; omega)).trans hcA
           have hP1 := row_more (R := R1) (by rw [H1.out]; exact hlt) _ HE1.out ((hown1.alloc (.cells #[.int .i64 (-(y % 48))] 3)).kept hgrow2 (.inr (fun e => hneA (Option.some.inj e).symm)))
           have hP2 := row_more (R := R2) (by rw [H2.out]; exact hlt) _ HE2.out hown2
           have hP3 : l' - y / 48 = E - (R1.take (k + 1)).sum := by rw [HL'.out]; exact sum_more E R1 k (by rw [H1.out]; exact hlt) _ HE1.out
           have H := Lib.hid (And.intro hneB (And.intro hP1 (And.intro hP2 (And.intro hP3 (And.intro (hbel.trans (hbA.trans hbB)) (show w1.heap.size ≤ wb.heap.size by omega))))))
           clear hP1 hP2 hP3 hown1 hown2 hgrow1 hgrow2 hA1 hA2 hneA hneB hbA hat1 hat2)))
      go_wp2
      go_roundw
      case rel => exact ⟨k + 1, ga, ca, gb, cb, by omega, by go_num, rfl, rfl, H.out.1, H.out.2.1, H.out.2.2.1, ⟨_, rfl, H.out.2.2.2.1⟩, H.out.2.2.2.2.1, H.out.2.2.2.2.2⟩
      case measure => simp [intOf]; omega
    · obtain rfl : k = ys.length := by omega
      have hT1 : R1.take ys.length = R1 := by rw [← H1.out]; exact List.take_length
      have hT2 : R2.take ys.length = R2 := by rw [← H2.out]; exact List.take_length
      have hl2 := HL'.out
      rw [hT1] at ho1 hl2
      rw [hT2] at ho2
      have p1 := own_row ho1 H1.out
      have p2 := own_row ho2 H2.out
      have hg1 := ho1.lt g1 rfl
      have hg2 := ho2.lt g2 rfl
      obtain ⟨left, hleft⟩ := Int.eq_ofNat_of_zero_le HL.out.1
      have hll : left ≤ ys.length := by have := HL.out.2; omega
      have HLE := Lib.hid hleft
      rw [hleft] at hl2
      subst hl2
      have hso := l2Sorted_is (some ⟨g2, 0, none⟩) c2 R2 wr g2 (g2 + 1) p2.ints (by omega) (by rw [H2.out]; omega)
      rw [H2.out] at hso
      clear ho1 ho2 hl' HL' hlb hT1 hT2 hleft
      go_wp2_with fail
      refine hso.mono ?_
      rintro e w3 ⟨A3, c3, ps, rfl, ho3, hst, hb3⟩
      have p3 := p1.below hb3 (by omega)
      have z3 := hb3.size
      obtain ⟨b3, o3, rfl, h31, h32, hc3⟩ := ho3.ints (by rw [ofN_length, hst.len]; omega)
      have HC3 := Lib.hid (fun j (hj : j < ys.length) => show w3.cell? ⟨b3, o3 + j, none⟩ = some (.int .i64 ((ps.getD j 0 : Nat) : Int)) by
        have e := hc3 j (by rw [ofN_length, hst.len]; exact hj)
        rw [ofN_getD ps j (by rw [hst.len]; exact hj)] at e
        exact e)
      have HST := Lib.hid hst
      have HB3 := Lib.hid ((B1.trans (hbel.mono (by omega))).trans (hb3.mono (by omega)) : Below w.heap.size w w3)
      clear hst hc3 ho3 hso p1 p2 hbel hb3 B1
      go_wp2
      go_loopw [10] (fun i wr => ∃ k : Nat, k ≤ left ∧ i = .int .i64 k ∧ Own wr g1 (g1 + 1) (some ⟨g1, 0, none⟩) (bumpTo R1 ps k) ∧ Chg g1 (g1 + 1) w3 wr) (fun i _ => left - (intOf i).toNat)
      case atStart => exact ⟨0, Nat.zero_le _, rfl, p3, Chg.refl _ _ _⟩
      case round =>
        obtain ⟨k, hk, rfl, hu, hch⟩ := hrel
        clear p3
        have zi := hch.size
        obtain ⟨wx, rfl⟩ : ∃ x, x = wr := ⟨_, rfl⟩
        by_cases hlk : k < left
        · have hkn : k < ys.length := by omega
          have hpk := HST.out.lt k hkn
          have hco : wx.cell? ⟨b3, o3 + k, none⟩ = some (.int .i64 ((ps.getD k 0 : Nat) : Int)) := (hch.cell (p := ⟨b3, o3 + k, none⟩) (by show b3 < _; omega) (by show ¬ (g1 ≤ b3 ∧ b3 < g1 + 1); omega)).trans (HC3.out k hkn)
          have hbv := bump_getD (zs := R2) (qs := R1) (ps := ps) (by rw [H2.out]; exact HST.out) (by rw [H1.out, H2.out]) k (by rw [H2.out]; omega) (ps.getD k 0) (by rw [H2.out]; exact hpk)
          have hqb := small_at R1 HSM.out (ps.getD k 0) (by rw [H1.out]; exact hpk)
          rw [← getD_of_lt R1 _ (by rw [H1.out]; exact hpk)] at hqb
          have hlen : (bumpTo R1 ps k).length = ys.length := by rw [bump_length, H1.out]
          have HBK : Hid (bumpTo R1 ps (k + 1) = (bumpTo R1 ps k).set (ps.getD k 0) ((bumpTo R1 ps k).getD (ps.getD k 0) 0 + 1)) := rfl
          generalize hpe : ps.getD k 0 = q at hpk hco hbv hqb HBK
          have hcu : wx.cell? ⟨g1, q, none⟩ = some (.int .i64 ((bumpTo R1 ps k).getD q 0)) ∧ wx.frozen? ⟨g1, q, none⟩ = false := by
            obtain ⟨b, o, e, _, _, hc, hf⟩ := hu.at_ (k := q) (by rw [hlen]; exact hpk)
            cases e
            rw [Nat.zero_add] at hc hf
            rw [getD_of_lt _ q (by rw [hlen]; exact hpk)]
            exact ⟨hc, hf⟩
          obtain ⟨hcu1, hcu2⟩ := hcu
          have hvb : -1000000 ≤ (bumpTo R1 ps k).getD q 0 ∧ (bumpTo R1 ps k).getD q 0 ≤ 1000001 := by rw [hbv]; split <;> omega
          have HLB := Lib.hid hlen
          clear hbv hqb hlen
          generalize hve : (bumpTo R1 ps k).getD q 0 = v at hcu1 hvb HBK
          clear hpe hve
          have hwv : IntKind.i64.wrap (v + 1) = v + 1 := IntWalk.i64_in _ (by omega)
          have hp0 : (0 : Int) ≤ (q : Int) := by omega
          have hp1 : (q : Int) < (ys.length : Int) := by omega
          have hk0 : (0 : Int) ≤ (k : Int) := by omega
          have hk1 : (k : Int) < (ys.length : Int) := by omega
          have hst := hu.stored (j := q) (by rw [HLB.out]; exact hpk) (v + 1)
          rw [Nat.zero_add, ← HBK.out] at hst
          have hcc := hch.trans (Chg.setCell wx (lo := g1) (hi := g1 + 1) (p := ⟨g1, q, none⟩) ⟨Nat.le_refl _, Nat.lt_succ_self _⟩ (.int .i64 (v + 1)))
          have H := Lib.hid (And.intro hst hcc)
          clear hst hcc hu hch
          go_wp2_with fail
          go_region
          all_goals
            go_wp2
            go_roundw
            case rel => exact ⟨k + 1, by omega, by go_num, H.out.1, by first | exact H.out.2 | exact chg_drew H.out.2⟩
            case measure => simp [intOf]; omega
        · obtain rfl : k = left := by omega
          have hwh : bumpTo R1 ps k = wholeRow 48 E ys := by
            rw [HR1.out]
            refine bump_whole ?_ k ?_ ?_
            · rw [← HR2.out]; exact HST.out
            · rw [← HR1.out]; exact HLE.out.symm
            · exact hll
          rw [hwh] at hu
          have hfin : Own wx w.heap.size wx.heap.size (some ⟨g1, 0, none⟩) (wholeRow 48 E ys) := hu.more (by omega) (by omega)
          have hlast : Below w.heap.size w wx := HB3.out.trans (hch.below (B := w.heap.size) (by omega) (by omega))
          have H := Lib.hid (And.intro hfin hlast)
          clear hu hch hwh hfin hlast
          go_wp2
          go_ret
          exact ⟨some ⟨g1, 0, none⟩, c1, by rw [wholeRow_length]; rfl, H.out.1, H.out.2⟩


set_option maxRecDepth 10000 in
set_option maxHeartbeats 400000 in
theorem specWholeShares_no (E : Int) (A : Option Addr) (c : Nat) (xs : List Int) (w : World) (lo hi : Nat) (h : Ints w lo hi A xs) (hh : hi ≤ w.heap.size) (hl : xs.length ≤ 1152921504606846976) (hok : caseOkB E xs = false) :
    Calls Try.prog 34 #[.agg #[.int .i64 E, .slice A xs.length c]] w (RetInts w []) := by
  have HO := Lib.hid hok
  clear hok
  have k0 := (h.alloc hh (.cells #[.int .i64 E, .slice A xs.length c] 25)).alloc (by rw [hsz]; omega) (.cells #[] 3)
  have B0 := ((Below.refl w.heap.size w).alloc (Nat.le_refl _) (.cells #[.int .i64 E, .slice A xs.length c] 25)).alloc (by rw [hsz]; omega) (.cells #[] 3)
  go_enter Try.func34, Try.ntmps34
  go_wp2_with fail
  refine (specCaseOk_no E A c xs _ _ _ k0 (by rw [hsz, hsz]; omega) hl HO.out).mono ?_
  rintro e w1 ⟨rfl, hb1⟩
  rw [hsz, hsz] at hb1
  have B1 := B0.trans (hb1.mono (by omega))
  have hz := hb1.size
  rw [hsz, hsz] at hz
  clear hb1
  go_wp2
  go_ret
  exact ⟨some ⟨w.heap.size + 1, 0, none⟩, 0, rfl, Own.nil, B1⟩

set_option maxRecDepth 10000 in
set_option maxHeartbeats 4000000 in
theorem specWholeShares_yes (E : Int) (A : Option Addr) (c : Nat) (xs : List Int) (w : World) (lo hi : Nat) (h : Ints w lo hi A xs) (hh : hi ≤ w.heap.size) (hl : xs.length ≤ 1152921504606846976) (hok : caseOkB E xs = true) :
    Calls Try.prog 34 #[.agg #[.int .i64 E, .slice A xs.length c]] w (RetInts w (wholeRow (max 1 xs.sum) E (shareRow E xs))) := by
  obtain ⟨i0, hi0, hz0, hz1, hz2⟩ := info_parts info_int
  have hbd := caseOk_bd hok
  have hsm := caseOk_small hok
  have HV := Lib.hid (fun k hk => share_bd hok k hk)
  have HO := Lib.hid hok
  clear hok
  obtain ⟨d, hd⟩ : ∃ d, d = max 1 xs.sum := ⟨_, rfl⟩
  rw [← hd]
  have hd1 : 1 ≤ d := by omega
  have hd2 : d ≤ 48 := by omega
  have hdm : max xs.sum 1 = d := by omega
  have HS : Hid ((shareRow E xs).sum = d * E) := shares_sum HO.out hd
  have hdz : d ≠ 0 := by omega
  have hz3 : (d == 0) = false := by simpa using hdz
  have hz4 : (d = 0) = False := by simpa using hdz
  clear hd
  obtain ⟨R1, hR1⟩ : ∃ R, R = quos d (shareRow E xs) := ⟨_, rfl⟩
  obtain ⟨R2, hR2⟩ : ∃ R, R = negs d (shareRow E xs) := ⟨_, rfl⟩
  have H1 : Hid (R1.length = xs.length) := by show _ = _; rw [hR1, quos_length, shareRow_length]
  have H2 : Hid (R2.length = xs.length) := by show _ = _; rw [hR2, negs_length, shareRow_length]
  have G1 : Hid (∀ k, k < xs.length → R1.getD k 0 = (shareRow E xs).getD k 0 / d) := fun k hk => by rw [hR1, quos_getD d (shareRow E xs) k (by rw [shareRow_length]; omega)]
  have G2 : Hid (∀ k, k < xs.length → R2.getD k 0 = -((shareRow E xs).getD k 0 % d)) := fun k hk => by rw [hR2, negs_getD d (shareRow E xs) k (by rw [shareRow_length]; omega)]
  have HL : Hid (0 ≤ E - R1.sum ∧ E - R1.sum ≤ xs.length) := by show _ ∧ _; rw [hR1]; have e := left_len (b := d) (E := E) (ys := (shareRow E xs)) (by omega) HS.out; rw [shareRow_length] at e; exact e
  have HR1 := Lib.hid hR1
  have HR2 := Lib.hid hR2
  have hS1 : Small R1 := ⟨by rw [H1.out]; omega, fun x hx => by
    obtain ⟨i, hi, rfl⟩ := List.mem_iff_getElem.1 hx
    have hi' : i < xs.length := by rw [← H1.out]; exact hi
    rw [← getD_of_lt R1 i hi, G1.out i hi']
    have e1 := by have e := HV.out i hi'; rw [← shareRow_at E xs i hi', ← getD_of_lt (shareRow E xs) i (by rw [shareRow_length]; exact hi')] at e; exact e
    have e2 := Int.ediv_nonneg e1.1 (show (0 : Int) ≤ d by omega)
    have e3 := Int.ediv_le_self d e1.1
    omega⟩
  have HSM := Lib.hid hS1
  clear hR1 hR2 hS1
  have k0 := (h.alloc hh (.cells #[.int .i64 E, .slice A xs.length c] 25)).alloc (by rw [hsz]; omega) (.cells #[] 3)
  have a0 := new2 w (.int .i64 E) (.slice A xs.length c) 25
  have a0' := keep2 ((Below.refl (w.heap.size + 1) (w.alloc (.cells #[.int .i64 E, .slice A xs.length c] 25))).alloc (by rw [hsz]; exact Nat.le_refl _) (.cells #[] 3)) a0 (by omega)
  have B0 := ((Below.refl w.heap.size w).alloc (Nat.le_refl _) (.cells #[.int .i64 E, .slice A xs.length c] 25)).alloc (by rw [hsz]; omega) (.cells #[] 3)
  have o0 : ((w.alloc (.cells #[.int .i64 E, .slice A xs.length c] 25)).alloc (.cells #[] 3)).ownsRow (w.heap.size + 1) 3 1 (.slice (some ⟨w.heap.size + 1, 0, none⟩) 0 0) 0 (ints (R1.take 0)) := by
    have e := World.ownsRow_made (base := w.heap.size + 1) (e := 3) (size := 1) (w.alloc (.cells #[.int .i64 E, .slice A xs.length c] 25)) #[] 0 (by rw [hsz]; exact Nat.le_refl _) (by unfold maxLen; omega) rfl
    rw [hsz] at e; exact e
  clear a0
  go_enter Try.func34, Try.ntmps34
  go_wp2_with fail
  refine (specCaseOk_yes E A c xs _ _ _ k0 (by rw [hsz, hsz]; omega) (by omega) HO.out).mono ?_
  rintro e w1 ⟨rfl, hb1⟩
  obtain ⟨a1, a1'⟩ := keep2 hb1 a0' (by rw [hsz, hsz]; omega)
  have o1 := row_keep o0 hb1
  have k1 := k0.below hb1 (by rw [hsz, hsz]; omega)
  rw [hsz, hsz] at hb1
  have z1 := hb1.size
  rw [hsz, hsz] at z1
  have B1 := B0.trans (hb1.mono (by omega))
  have r1 : (w1.alloc (.cells #[] 3)).ownsRow (w.heap.size + 1) 3 1 (.slice (some ⟨w1.heap.size, 0, none⟩) 0 0) 0 (ints (R2.take 0)) := own_lower (World.ownsRow_made w1 #[] 0 (Nat.le_refl _) (by unfold maxLen; omega) rfl) (by omega)
  have o2 := o1.alloc (.cells #[] 3)
  have b2 := (Below.refl w1.heap.size w1).alloc (Nat.le_refl _) (.cells #[] 3)
  have z2 : (w1.alloc (.cells #[] 3)).heap.size = w1.heap.size + 1 := hsz _ _
  obtain ⟨a2, a2'⟩ := keep2 b2 ⟨a1, a1'⟩ (by omega)
  have hS0 : (E : Int) = E - (R1.take 0).sum := by simp
  have HS0 := Lib.hid hS0
  clear hS0 hb1 a0' k0 h B0 o0 o1
  go_wp2_with fail
  refine (l1Sum_any A c xs _ lo hi k1 hsm).mono ?_
  rintro e w' ⟨rfl, rfl⟩
  go_wp2
  go_loopw [3, 5, 6, 7] (fun v1 v2 l i wr => ∃ k g1 c1 g2 c2 : Nat, k ≤ xs.length ∧ i = .int .i64 k ∧ v1 = .slice (some ⟨g1, 0, none⟩) k c1 ∧ v2 = .slice (some ⟨g2, 0, none⟩) k c2 ∧ g1 ≠ g2 ∧ wr.ownsRow (w.heap.size + 1) 3 1 v1 k (ints (R1.take k)) ∧ wr.ownsRow (w.heap.size + 1) 3 1 v2 k (ints (R2.take k)) ∧ (∃ l', l = .int .i64 l' ∧ l' = E - (R1.take k).sum) ∧ Below (w.heap.size + 1) w1 wr ∧ w1.heap.size ≤ wr.heap.size) (fun _ _ _ i _ => xs.length - (intOf i).toNat)
  case atStart => exact ⟨0, w.heap.size + 1, 0, w1.heap.size, 0, Nat.zero_le _, rfl, rfl, rfl, by omega, o2, r1, ⟨E, rfl, HS0.out⟩, b2.mono (by omega), by omega⟩
  case round =>
    obtain ⟨k, g1, c1, g2, c2, hk, rfl, rfl, rfl, hne, ho1, ho2, ⟨l', rfl, hl'⟩, hbel, hzr⟩ := hrel
    clear o2 r1 b2 z2
    have HL' := Lib.hid hl'
    have hlb := sum_bd R1 HSM.out k
    obtain ⟨ar, ar'⟩ := keep2 hbel ⟨a1, a1'⟩ (by omega)
    by_cases hlt : k < xs.length
    · obtain ⟨b, o, rfl, _, hbh, hc⟩ := (k1.below hbel (by omega)).at_ hlt
      have hv := HV.out k hlt
      have e1 := G1.out k hlt
      have e2 := G2.out k hlt
      rw [getD_of_lt (shareRow E xs) k (by rw [shareRow_length]; omega), shareRow_at E xs k hlt] at e1 e2
      obtain ⟨y, hy⟩ : ∃ y, xs[k] * E = y := ⟨_, rfl⟩
      rw [hy] at hv e1 e2
      have hwy : IntKind.i64.wrap y = y := IntWalk.i64_in _ (by omega)
      have hk0 : (0 : Int) ≤ (k : Int) := by omega
      have hk1 : (k : Int) < (xs.length : Int) := by omega
      have HE1 := Lib.hid e1
      have HE2 := Lib.hid e2
      clear hl' e1 e2
      go_wp2_with fail
      go_quiet (fail)
      generalize hW : World.drewN _ _ = W
      have e1 := HE1.out
      have e2 := HE2.out
      have ho1' : W.ownsRow (w.heap.size + 1) 3 1 (.slice (some ⟨g1, 0, none⟩) k c1) k (ints (R1.take k)) := by rw [← hW]; exact ho1
      have ho2' : W.ownsRow (w.heap.size + 1) 3 1 (.slice (some ⟨g2, 0, none⟩) k c2) k (ints (R2.take k)) := by rw [← hW]; exact ho2
      have hbel' : Below (w.heap.size + 1) w1 W := by rw [← hW]; first | exact below_drewN hbel _ | exact below_drewN (below_drewN hbel _) _
      have hzr' : w1.heap.size ≤ W.heap.size := by rw [← hW]; exact hzr
      clear hW ho1 ho2 hbel hzr hc
      have ho1 := ho1'
      have ho2 := ho2'
      have hbel := hbel'
      have hzr := hzr'
      clear ho1' ho2' hbel' hzr'
      have hq0 : 0 ≤ y / d ∧ y / d ≤ y := ⟨Int.ediv_nonneg hv.1 (by omega), Int.ediv_le_self _ hv.1⟩
      have hr0 : 0 ≤ y % d ∧ y % d < d := ⟨Int.emod_nonneg _ (by omega), Int.emod_lt_of_pos _ (by omega)⟩
      have hwr : IntKind.i64.wrap (-(y % d)) = -(y % d) := IntWalk.i64_in _ (by omega)
      have hwl : IntKind.i64.wrap (l' - y / d) = l' - y / d := IntWalk.i64_in _ (by have := HL'.out; omega)
      have hg1 := ho1.lt g1 rfl
      have hg2 := ho2.lt g2 rfl
      have hA1 := ho1.alloc (.cells #[.int .i64 (y / d)] 3)
      have hs1 : (W.alloc (.cells #[.int .i64 (y / d)] 3)).heap.size = W.heap.size + 1 := hsz _ _
      have HE1 := Lib.hid e1
      have HE2 := Lib.hid e2
      clear e1 e2
      go_wp2_with (first
        | (at_builtin; (
           refine wpList_append_lies _ rfl (.tmp 38) (.tmp 42) 23 rfl (w.heap.size + 1) 3 i0 (.int .i64 0) 1 8 Try.underlying23 hi0 hz0 hz1 hz2 rfl (by decide) _ k _ rfl hA1 ⟨W.heap.size, 0, none⟩ 1 1 [.int .i64 (y / d)] rfl rfl (news_one _ _ _) (one_cell _) (by omega) (by unfold maxLen; omega) (by omega) (by omega) (W.heap.size + 1) hs1 ?_
           intro ga ca wa hown1 hgrow1 hat1 hlt1
           have hneA : g2 ≠ ga := by
             rcases hat1 with e | e
             · have e' : g1 = ga := Option.some.inj e
               omega
             · omega
           have hA2 := ((ho2.alloc (.cells #[.int .i64 (y / d)] 3)).kept hgrow1 (.inr (fun e => hne (Option.some.inj e).symm))).alloc (.cells #[.int .i64 (-(y % d))] 3)
           have hbA : Below (w.heap.size + 1) W wa := ((Below.refl (w.heap.size + 1) W).alloc (by omega) (.cells #[.int .i64 (y / d)] 3)).grown hgrow1 (by omega) (fun g hg => by have e' : g1 = g := Option.some.inj hg; omega)
           have zA : W.heap.size + 1 ≤ wa.heap.size := by have e := hgrow1.size; rw [hs1] at e; exact e
           skip
           have hs2 : (wa.alloc (.cells #[.int .i64 (-(y % d))] 3)).heap.size = wa.heap.size + 1 := hsz _ _))
        | (at_builtin; (
           refine wpList_append_lies _ rfl (.tmp 44) (.tmp 49) 23 rfl (w.heap.size + 1) 3 i0 (.int .i64 0) 1 8 Try.underlying23 hi0 hz0 hz1 hz2 rfl (by decide) _ k _ rfl hA2 ⟨wa.heap.size, 0, none⟩ 1 1 [.int .i64 (-(y % d))] rfl rfl (news_one _ _ _) (one_cell _) (by omega) (by unfold maxLen; omega) (by omega) (by omega) (wa.heap.size + 1) hs2 ?_
           intro gb cb wb hown2 hgrow2 hat2 hlt2
           have hneB : ga ≠ gb := by
             rcases hat2 with e | e
             · have e' : g2 = gb := Option.some.inj e
               omega
             · omega
           have hbB : Below (w.heap.size + 1) wa wb := ((Below.refl (w.heap.size + 1) wa).alloc (by omega) (.cells #[.int .i64 (-(y % d))] 3)).grown hgrow2 (by omega) (fun g hg => by have e' : g2 = g := Option.some.inj hg; omega)
           have zB : wa.heap.size + 1 ≤ wb.heap.size := by have e := hgrow2.size; rw [hs2] at e; exact e
           skip
           have hP1 := row_more (R := R1) (by rw [H1.out]; exact hlt) _ HE1.out ((hown1.alloc (.cells #[.int .i64 (-(y % d))] 3)).kept hgrow2 (.inr (fun e => hneA (Option.some.inj e).symm)))
           have hP2 := row_more (R := R2) (by rw [H2.out]; exact hlt) _ HE2.out hown2
           have hP3 : l' - y / d = E - (R1.take (k + 1)).sum := by rw [HL'.out]; exact sum_more E R1 k (by rw [H1.out]; exact hlt) _ HE1.out
           have H := Lib.hid (And.intro hneB (And.intro hP1 (And.intro hP2 (And.intro hP3 (And.intro (hbel.trans (hbA.trans hbB)) (show w1.heap.size ≤ wb.heap.size by omega))))))
           clear hP1 hP2 hP3 hown1 hown2 hgrow1 hgrow2 hA1 hA2 hneA hneB hbA hat1 hat2)))
      go_wp2
      go_roundw
      case rel => exact ⟨k + 1, ga, ca, gb, cb, by omega, by go_num, rfl, rfl, H.out.1, H.out.2.1, H.out.2.2.1, ⟨_, rfl, H.out.2.2.2.1⟩, H.out.2.2.2.2.1, H.out.2.2.2.2.2⟩
      case measure => simp [intOf]; omega
    · obtain rfl : k = xs.length := by omega
      have hT1 : R1.take xs.length = R1 := by rw [← H1.out]; exact List.take_length
      have hT2 : R2.take xs.length = R2 := by rw [← H2.out]; exact List.take_length
      have hl2 := HL'.out
      rw [hT1] at ho1 hl2
      rw [hT2] at ho2
      have p1 := own_row ho1 H1.out
      have p2 := own_row ho2 H2.out
      have hg1 := ho1.lt g1 rfl
      have hg2 := ho2.lt g2 rfl
      obtain ⟨left, hleft⟩ := Int.eq_ofNat_of_zero_le HL.out.1
      have hll : left ≤ xs.length := by have := HL.out.2; omega
      have HLE := Lib.hid hleft
      rw [hleft] at hl2
      subst hl2
      have hso := l2Sorted_is (some ⟨g2, 0, none⟩) c2 R2 wr g2 (g2 + 1) p2.ints (by omega) (by rw [H2.out]; omega)
      rw [H2.out] at hso
      clear ho1 ho2 hl' HL' hlb hT1 hT2 hleft
      go_wp2_with fail
      refine hso.mono ?_
      rintro e w3 ⟨A3, c3, ps, rfl, ho3, hst, hb3⟩
      have p3 := p1.below hb3 (by omega)
      have z3 := hb3.size
      obtain ⟨b3, o3, rfl, h31, h32, hc3⟩ := ho3.ints (by rw [ofN_length, hst.len]; omega)
      have HC3 := Lib.hid (fun j (hj : j < xs.length) => show w3.cell? ⟨b3, o3 + j, none⟩ = some (.int .i64 ((ps.getD j 0 : Nat) : Int)) by
        have e := hc3 j (by rw [ofN_length, hst.len]; exact hj)
        rw [ofN_getD ps j (by rw [hst.len]; exact hj)] at e
        exact e)
      have HST := Lib.hid hst
      have HB3 := Lib.hid ((B1.trans (hbel.mono (by omega))).trans (hb3.mono (by omega)) : Below w.heap.size w w3)
      clear hst hc3 ho3 hso p1 p2 hbel hb3 B1
      go_wp2
      go_loopw [10] (fun i wr => ∃ k : Nat, k ≤ left ∧ i = .int .i64 k ∧ Own wr g1 (g1 + 1) (some ⟨g1, 0, none⟩) (bumpTo R1 ps k) ∧ Chg g1 (g1 + 1) w3 wr) (fun i _ => left - (intOf i).toNat)
      case atStart => exact ⟨0, Nat.zero_le _, rfl, p3, Chg.refl _ _ _⟩
      case round =>
        obtain ⟨k, hk, rfl, hu, hch⟩ := hrel
        clear p3
        have zi := hch.size
        obtain ⟨wx, rfl⟩ : ∃ x, x = wr := ⟨_, rfl⟩
        by_cases hlk : k < left
        · have hkn : k < xs.length := by omega
          have hpk := HST.out.lt k hkn
          have hco : wx.cell? ⟨b3, o3 + k, none⟩ = some (.int .i64 ((ps.getD k 0 : Nat) : Int)) := (hch.cell (p := ⟨b3, o3 + k, none⟩) (by show b3 < _; omega) (by show ¬ (g1 ≤ b3 ∧ b3 < g1 + 1); omega)).trans (HC3.out k hkn)
          have hbv := bump_getD (zs := R2) (qs := R1) (ps := ps) (by rw [H2.out]; exact HST.out) (by rw [H1.out, H2.out]) k (by rw [H2.out]; omega) (ps.getD k 0) (by rw [H2.out]; exact hpk)
          have hqb := small_at R1 HSM.out (ps.getD k 0) (by rw [H1.out]; exact hpk)
          rw [← getD_of_lt R1 _ (by rw [H1.out]; exact hpk)] at hqb
          have hlen : (bumpTo R1 ps k).length = xs.length := by rw [bump_length, H1.out]
          have HBK : Hid (bumpTo R1 ps (k + 1) = (bumpTo R1 ps k).set (ps.getD k 0) ((bumpTo R1 ps k).getD (ps.getD k 0) 0 + 1)) := rfl
          generalize hpe : ps.getD k 0 = q at hpk hco hbv hqb HBK
          have hcu : wx.cell? ⟨g1, q, none⟩ = some (.int .i64 ((bumpTo R1 ps k).getD q 0)) ∧ wx.frozen? ⟨g1, q, none⟩ = false := by
            obtain ⟨b, o, e, _, _, hc, hf⟩ := hu.at_ (k := q) (by rw [hlen]; exact hpk)
            cases e
            rw [Nat.zero_add] at hc hf
            rw [getD_of_lt _ q (by rw [hlen]; exact hpk)]
            exact ⟨hc, hf⟩
          obtain ⟨hcu1, hcu2⟩ := hcu
          have hvb : -1000000 ≤ (bumpTo R1 ps k).getD q 0 ∧ (bumpTo R1 ps k).getD q 0 ≤ 1000001 := by rw [hbv]; split <;> omega
          have HLB := Lib.hid hlen
          clear hbv hqb hlen
          generalize hve : (bumpTo R1 ps k).getD q 0 = v at hcu1 hvb HBK
          clear hpe hve
          have hwv : IntKind.i64.wrap (v + 1) = v + 1 := IntWalk.i64_in _ (by omega)
          have hp0 : (0 : Int) ≤ (q : Int) := by omega
          have hp1 : (q : Int) < (xs.length : Int) := by omega
          have hk0 : (0 : Int) ≤ (k : Int) := by omega
          have hk1 : (k : Int) < (xs.length : Int) := by omega
          have hst := hu.stored (j := q) (by rw [HLB.out]; exact hpk) (v + 1)
          rw [Nat.zero_add, ← HBK.out] at hst
          have hcc := hch.trans (Chg.setCell wx (lo := g1) (hi := g1 + 1) (p := ⟨g1, q, none⟩) ⟨Nat.le_refl _, Nat.lt_succ_self _⟩ (.int .i64 (v + 1)))
          have H := Lib.hid (And.intro hst hcc)
          clear hst hcc hu hch
          go_wp2_with fail
          go_region
          all_goals
            go_wp2
            go_roundw
            case rel => exact ⟨k + 1, by omega, by go_num, H.out.1, by first | exact H.out.2 | exact chg_drew H.out.2⟩
            case measure => simp [intOf]; omega
        · obtain rfl : k = left := by omega
          have hwh : bumpTo R1 ps k = wholeRow d E (shareRow E xs) := by
            rw [HR1.out]
            refine bump_whole ?_ k ?_ ?_
            · rw [← HR2.out, shareRow_length]; exact HST.out
            · rw [← HR1.out]; exact HLE.out.symm
            · rw [shareRow_length]; exact hll
          rw [hwh] at hu
          have hfin : Own wx w.heap.size wx.heap.size (some ⟨g1, 0, none⟩) (wholeRow d E (shareRow E xs)) := hu.more (by omega) (by omega)
          have hlast : Below w.heap.size w wx := HB3.out.trans (hch.below (B := w.heap.size) (by omega) (by omega))
          have H := Lib.hid (And.intro hfin hlast)
          clear hu hch hwh hfin hlast
          go_wp2
          go_ret
          exact ⟨some ⟨g1, 0, none⟩, c1, by rw [wholeRow_length, shareRow_length]; rfl, H.out.1, H.out.2⟩


end Go.Proofs.Ytdhbeodgebdjjaa
