/-
  The places of a row in ascending order of its numbers, in new memory. No condition but a row of at most a thousand numbers.
-/
import Derived.Test.YtilhholjbjhaeaaEven
import Derived.Test.YtilhholjbjhaeaaDrawO
import Derived.BigQuiet
namespace Go.Proofs.Ytilhholjbjhaeaa
open Go.RowKit

def ofN (ps : List Nat) : List Int := ps.map fun (p : Nat) => (p : Int)
theorem ofN_length (ps : List Nat) : (ofN ps).length = ps.length := by simp [ofN]
theorem ofN_getD (ps : List Nat) (j : Nat) (h : j < ps.length) : (ofN ps).getD j 0 = ((ps.getD j 0 : Nat) : Int) := by
  simp [ofN, List.getD, List.getElem?_eq_getElem h]
theorem ofN_cut (ps : List Nat) (a k : Nat) : ofN (ps.take a ++ [k] ++ ps.drop a) = (ofN ps).take a ++ [(k : Int)] ++ (ofN ps).drop a := by simp [ofN, List.map_take, List.map_drop]
/-- The numbers at places. -/
def valsAt (xs : List Int) (ps : List Nat) : List Int := ps.map fun p => xs.getD p 0
theorem valsAt_length (xs : List Int) (ps : List Nat) : (valsAt xs ps).length = ps.length := by simp [valsAt]
/-- The places 0 .. k - 1 in ascending order of the numbers there, equal ones by their places. -/
def SortTo (xs : List Int) (ps : List Nat) (k : Nat) : Prop := ps.Perm (List.range k) ∧ (valsAt xs ps).Pairwise (· ≤ ·) ∧ ps.Pairwise fun p q => xs.getD p 0 < xs.getD q 0 ∨ (xs.getD p 0 = xs.getD q 0 ∧ p < q)
theorem SortTo.len {xs : List Int} {ps : List Nat} {k : Nat} (h : SortTo xs ps k) : ps.length = k := by rw [h.1.length_eq, List.length_range]
theorem SortTo.lt {xs : List Int} {ps : List Nat} {k : Nat} (h : SortTo xs ps k) (j : Nat) (hj : j < k) : ps.getD j 0 < k := by
  have hj' : j < ps.length := by rw [h.len]; exact hj
  have e : ps.getD j 0 = ps[j] := by simp [List.getD, List.getElem?_eq_getElem hj']
  rw [e]
  exact List.mem_range.1 (h.1.mem_iff.1 (List.getElem_mem hj'))
theorem valsAt_getElem (xs : List Int) (ps : List Nat) (j : Nat) (h : j < ps.length) : (valsAt xs ps)[j]'(by rw [valsAt_length]; exact h) = xs.getD (ps.getD j 0) 0 := by
  simp [valsAt, List.getD, List.getElem?_eq_getElem h]
theorem SortTo.stable {xs : List Int} {ps : List Nat} {k a : Nat} (h : SortTo xs ps k) (ha : a ≤ k) (hgt : ∀ j, a ≤ j → j < k → xs.getD k 0 < xs.getD (ps.getD j 0) 0) (hle : 0 < a → xs.getD (ps.getD (a - 1) 0) 0 ≤ xs.getD k 0) :
    (ps.take a ++ k :: ps.drop a).Pairwise fun p q => xs.getD p 0 < xs.getD q 0 ∨ (xs.getD p 0 = xs.getD q 0 ∧ p < q) := by
  have hl := h.len
  have hs := h.2.2
  have hv := h.2.1
  have hm : ∀ x ∈ ps, x < k := fun x hx => List.mem_range.1 (h.1.mem_iff.1 hx)
  have ge : ∀ j (hj : j < ps.length), ps.getD j 0 = ps[j] := fun j hj => by simp [List.getD, List.getElem?_eq_getElem hj]
  have h1 : ∀ x ∈ ps.take a, xs.getD x 0 ≤ xs.getD k 0 ∧ x < k := fun x hx => by
    refine ⟨?_, hm x (List.mem_of_mem_take hx)⟩
    obtain ⟨j, hj, rfl⟩ := List.mem_iff_getElem.1 hx
    have hja : j < a := by rw [List.length_take] at hj; omega
    rw [List.getElem_take]
    have h2 := hle (by omega)
    rw [ge (a - 1) (by omega)] at h2
    rcases Nat.lt_or_ge j (a - 1) with h3 | h3
    · have h4 := (List.pairwise_iff_getElem.1 hs) j (a - 1) (by omega) (by omega) h3
      omega
    · obtain rfl : j = a - 1 := by omega
      exact h2
  have h2 : ∀ x ∈ ps.drop a, xs.getD k 0 < xs.getD x 0 := fun x hx => by
    obtain ⟨j, hj, rfl⟩ := List.mem_iff_getElem.1 hx
    rw [List.getElem_drop]
    rw [List.length_drop] at hj
    have h3 := hgt (a + j) (by omega) (by omega)
    rwa [ge (a + j) (by omega)] at h3
  rw [List.pairwise_append]
  refine ⟨hs.sublist (List.take_sublist _ _), List.pairwise_cons.2 ⟨fun x hx => .inl (h2 x hx), hs.sublist (List.drop_sublist _ _)⟩, fun x hx y hy => ?_⟩
  have hx1 := h1 x hx
  rcases List.mem_cons.1 hy with rfl | hy
  · rcases Int.lt_or_eq_of_le hx1.1 with h | h
    · exact .inl h
    · exact .inr ⟨h, hx1.2⟩
  · exact .inl (by have := h2 y hy; omega)
theorem SortTo.insert {xs : List Int} {ps : List Nat} {k a : Nat} (h : SortTo xs ps k) (ha : a ≤ k) (hgt : ∀ j, a ≤ j → j < k → xs.getD k 0 < xs.getD (ps.getD j 0) 0) (hle : 0 < a → xs.getD (ps.getD (a - 1) 0) 0 ≤ xs.getD k 0) :
    SortTo xs (ps.take a ++ [k] ++ ps.drop a) (k + 1) := by
  have hl := h.len
  constructor
  · have e : ps.take a ++ [k] ++ ps.drop a = ps.take a ++ k :: ps.drop a := by simp
    rw [e]
    refine List.perm_middle.trans ?_
    rw [List.take_append_drop, List.range_succ]
    exact (List.Perm.cons k h.1).trans (List.perm_append_singleton k _).symm
  refine ⟨?_, by simpa using h.stable ha hgt hle⟩
  · have hs := h.2.1
    have e : valsAt xs (ps.take a ++ [k] ++ ps.drop a) = (valsAt xs ps).take a ++ (xs.getD k 0 :: (valsAt xs ps).drop a) := by simp [valsAt, List.map_take, List.map_drop]
    rw [e, List.pairwise_append]
    have h1 : ∀ x ∈ (valsAt xs ps).take a, x ≤ xs.getD k 0 := fun x hx => by
      obtain ⟨j, hj, rfl⟩ := List.mem_iff_getElem.1 hx
      have hja : j < a := by rw [List.length_take] at hj; omega
      rw [List.getElem_take]
      have h2 := hle (by omega)
      have hv : a - 1 < (valsAt xs ps).length := by rw [valsAt_length]; omega
      rw [← valsAt_getElem xs ps (a - 1) (by omega)] at h2
      rcases Nat.lt_or_ge j (a - 1) with h3 | h3
      · have := (List.pairwise_iff_getElem.1 hs) j (a - 1) (by rw [valsAt_length]; omega) hv h3
        omega
      · obtain rfl : j = a - 1 := by omega
        exact h2
    have h2 : ∀ x ∈ (valsAt xs ps).drop a, xs.getD k 0 ≤ x := fun x hx => by
      obtain ⟨j, hj, rfl⟩ := List.mem_iff_getElem.1 hx
      rw [List.getElem_drop]
      have hj' : a + j < ps.length := by rw [List.length_drop, valsAt_length] at hj; omega
      rw [valsAt_getElem xs ps (a + j) hj']
      have := hgt (a + j) (by omega) (by omega)
      omega
    refine ⟨hs.sublist (List.take_sublist _ _), List.pairwise_cons.2 ⟨h2, hs.sublist (List.drop_sublist _ _)⟩, fun x hx y hy => ?_⟩
    rcases List.mem_cons.1 hy with hy | hy
    · subst hy; exact h1 x hx
    · have := h1 x hx; have := h2 y hy; omega
/-- What the sorting leaves. -/
def SortedTo (w : World) (xs : List Int) (e : Ending) (w' : World) : Prop :=
  ∃ A' c', ∃ ps : List Nat, e = .returned (.slice A' ps.length c') ∧ Own w' w.heap.size w'.heap.size A' (ofN ps) ∧ SortTo xs ps xs.length ∧ Below w.heap.size w w'
/-- What holds between the places that are put in order. -/
def SMid (w : World) (xs : List Int) (k : Nat) (v : Value) (wr : World) : Prop :=
  ∃ g cap, ∃ ps : List Nat, v = .slice (some ⟨g, 0, none⟩) k cap ∧ SortTo xs ps k ∧ k ≤ cap ∧ wr.ownsRow w.heap.size 3 1 (.slice (some ⟨g, 0, none⟩) k cap) k (ints (ofN ps)) ∧ Below w.heap.size w wr
theorem below_grow {w u u' : World} {gv n' c' : Nat} (h : Below w.heap.size w u) (hg : u.grownBy u' (Value.ownBlock (.slice (some ⟨gv, 0, none⟩) n' c'))) (hgv : w.heap.size ≤ gv) : Below w.heap.size w u' :=
  h.grown hg h.size (fun e he => by have e' : gv = e := Option.some.inj he; omega)
theorem append_keep' {w w' : World} {g k cap B : Nat} {os : List Int} {o : Obj} {n' c' gv : Nat} (own : w.ownsRow B 3 1 (.slice (some ⟨g, 0, none⟩) k cap) k (ints os))
    (hgr : (w.alloc o).grownBy w' (Value.ownBlock (.slice (some ⟨gv, 0, none⟩) n' c'))) (hne : g ≠ gv) :
    w'.ownsRow B 3 1 (.slice (some ⟨g, 0, none⟩) k cap) k (ints os) ∧ w.heap.size + 1 ≤ w'.heap.size := by
  have z := hgr.size
  rw [hsz] at z
  exact ⟨(own.alloc o).kept hgr (.inr (fun e => hne (Option.some.inj e))), z⟩
theorem sort_step {w w2 w3 w4 w5 : World} {k a n5 g1 g2 g3 cap3 n1 c1 n2 c2 : Nat} {xs : List Int} {ps : List Nat} {o o' : Obj} (hps : SortTo xs ps k) (hak : a ≤ k) (hgt : ∀ j, a ≤ j → j < k → xs.getD k 0 < xs.getD (ps.getD j 0) 0) (hle : 0 < a → xs.getD (ps.getD (a - 1) 0) 0 ≤ xs.getD k 0) (hn5 : n5 = k + 1)
    (hown5 : w5.ownsRow w2.heap.size 3 1 (.slice (some ⟨g3, 0, none⟩) n5 cap3) n5 (ints ((ofN ps).take a) ++ [.int .i64 (k : Int)] ++ ints ((ofN ps).drop a))) (hcp3 : n5 ≤ cap3) (hB : Below w.heap.size w w2)
    (hgrow3 : (w2.alloc o).grownBy w3 (Value.ownBlock (.slice (some ⟨w2.heap.size, 0, none⟩) 0 0))) (hgrow4 : (w3.alloc o').grownBy w4 (Value.ownBlock (.slice (some ⟨g1, 0, none⟩) n1 c1))) (hgrow5 : w4.grownBy w5 (Value.ownBlock (.slice (some ⟨g2, 0, none⟩) n2 c2))) (hg1 : w2.heap.size ≤ g1) (hg2 : w2.heap.size ≤ g2) :
    SMid w xs (k + 1) (.slice (some ⟨g3, 0, none⟩) n5 cap3) w5 := by
  subst hn5
  have z := hB.size
  refine ⟨g3, cap3, ps.take a ++ [k] ++ ps.drop a, rfl, hps.insert hak hgt hle, hcp3, ?_, ?_⟩
  · have e : ints (ofN (ps.take a ++ [k] ++ ps.drop a)) = ints ((ofN ps).take a) ++ [.int .i64 (k : Int)] ++ ints ((ofN ps).drop a) := by rw [ofN_cut]; simp [ints]
    rw [e]
    exact own_lower hown5 z
  · have b3 := below_grow (hB.alloc z o) hgrow3 z
    have b4 := below_grow (b3.alloc b3.size o') hgrow4 (by omega)
    exact below_grow b4 hgrow5 (by omega)

set_option maxRecDepth 10000 in
set_option maxHeartbeats 4000000 in
theorem l2Sorted_any (A : Option Addr) (c : Nat) (xs : List Int) (w : World) (lo hi : Nat) (h : Ints w lo hi A xs) (hh : hi ≤ w.heap.size) (hl : xs.length ≤ 1000) :
    Calls Try.prog 44 #[.slice A xs.length c] w (SortedTo w xs) := by
  obtain ⟨i0, hi0, hq0, hq1, hq2⟩ := info_parts info_int
  have mid0 : SMid w xs 0 (.slice (some ⟨w.heap.size, 0, none⟩) 0 0) (w.alloc (.cells #[] 3)) :=
    ⟨w.heap.size, 0, [], rfl, ⟨by simp, by simp [valsAt], by simp⟩, Nat.le_refl _, World.ownsRow_made w #[] 0 (Nat.le_refl _) (by unfold maxLen; omega) rfl, (Below.refl _ _).alloc (Nat.le_refl _) _⟩
  go_enter Try.func44, Try.ntmps44
  go_wp2
  go_loopw [3, 4] (fun v i wr => ∃ k : Nat, k ≤ xs.length ∧ i = .int .i64 k ∧ SMid w xs k v wr) (fun _ i _ => xs.length - (intOf i).toNat)
  case atStart => exact ⟨0, Nat.zero_le _, rfl, mid0⟩
  case round =>
    obtain ⟨k, hk, rfl, hmid⟩ := hrel
    clear mid0
    obtain ⟨g, cap, ps, rfl, hps, hkc, hown, hbel⟩ := hmid
    obtain ⟨wo, rfl⟩ : ∃ x, x = wr := ⟨_, rfl⟩
    have HOL := Lib.hid hps.len
    have HPS := Lib.hid hps
    have HB := Lib.hid hbel
    by_cases hlt : k < xs.length
    · obtain ⟨b, o, rfl, hb1, hb2, hc⟩ := (h.below hbel hh) (by omega)
      have hlto := Lib.hid (fun j (hj : j < k) => hps.lt j hj)
      have HC := Lib.hid hc
      clear hps hbel hc
      go_wp2_with fail
      go_loopw [5] (fun i wi => ∃ a : Nat, a ≤ k ∧ i = .int .i64 a ∧ (∀ j, a ≤ j → j < k → xs.getD k 0 < xs.getD (ps.getD j 0) 0) ∧ ∃ n, wi = wo.drewN n) (fun i _ => (intOf i).toNat)
      case atStart => exact ⟨k, Nat.le_refl _, rfl, fun j h1 h2 => absurd h2 (by omega), 0, rfl⟩
      case round =>
        obtain ⟨a, hak, rfl, hga, n, rfl⟩ := hrel
        have HGA := Lib.hid hga
        clear hga
        have hck : wo.cell? ⟨b, o + k, none⟩ = some (.int .i64 (xs.getD k 0)) := HC.out k hlt
        obtain ⟨vk, hvk⟩ : ∃ v, v = xs.getD k 0 := ⟨_, rfl⟩
        rw [← hvk] at hck
        have hkx : (k : Int) < (xs.length : Int) := by omega
        have hk0 : (0 : Int) ≤ (k : Int) := by omega
        by_cases h0 : 0 < a
        · have hd0 : decide ((0 : Int) < (a : Int)) = true := by simp only [decide_eq_true_eq]; omega
          have hd0n : decide (0 < a) = true := by simpa using h0
          have hwa : IntKind.i64.wrap ((a : Int) - 1) = (a : Int) - 1 := IntWalk.i64_in _ (by omega)
          have h1a : (1 : Int) ≤ (a : Int) := by omega
          have h1n : 1 ≤ a := h0
          have hka : (a : Int) ≤ (k : Int) := by omega
          have hi0' : (0 : Int) ≤ (a : Int) - 1 := by omega
          have hi1' : (a : Int) - 1 < (k : Int) := by omega
          have hp0 := hlto.out (a - 1) (by omega)
          have hcg : wo.cell? ⟨g, a - 1, none⟩ = some (.int .i64 ((ps.getD (a - 1) 0 : Nat) : Int)) := by
            rw [hown.cellAt (a - 1) (by omega), ints_at _ _ (by rw [ofN_length, HOL.out]; omega), ofN_getD _ _ (by rw [HOL.out]; omega)]
          have hcp : wo.cell? ⟨b, o + ps.getD (a - 1) 0, none⟩ = some (.int .i64 (xs.getD (ps.getD (a - 1) 0) 0)) := HC.out _ (by omega)
          obtain ⟨vp, hvp⟩ : ∃ v, v = xs.getD (ps.getD (a - 1) 0) 0 := ⟨_, rfl⟩
          rw [← hvp] at hcp
          have HVP : Hid (xs.getD (ps.getD (a - 1) 0) 0 = vp) := hvp.symm
          have HVK : Hid (xs.getD k 0 = vk) := hvk.symm
          clear hvp hvk
          generalize hpe : ps.getD (a - 1) 0 = p at hp0 hcg hcp
          have HPE := Lib.hid hpe
          clear hpe
          have hp1 : (p : Int) < (xs.length : Int) := by omega
          have hp2 : (0 : Int) ≤ (p : Int) := by omega
          by_cases hg : vk < vp
          · have hd1 : decide (vk < vp) = true := by simpa using hg
            have HGN : Hid (∀ j, a - 1 ≤ j → j < k → xs.getD k 0 < xs.getD (ps.getD j 0) 0) := fun j h1 h2 => by
              rcases Nat.lt_or_ge j a with h3 | h3
              · obtain rfl : j = a - 1 := by omega
                rw [HVP.out, HVK.out]; exact hg
              · exact HGA.out j h3 h2
            go_wp2
            go_quiet (fail)
            go_wp2
            go_roundw
            case rel => exact ⟨a - 1, by omega, congrArg (Value.int .i64) (by omega), HGN.out, by first | exact ⟨_, rfl⟩ | (rw [World.drewN_drewN]; exact ⟨_, rfl⟩)⟩
            case measure => simp [intOf]; omega
          · have hd1 : decide (vk < vp) = false := by simpa using hg
            have HLE : Hid (0 < a → xs.getD (ps.getD (a - 1) 0) 0 ≤ xs.getD k 0) := fun _ => by rw [HVP.out, HVK.out]; omega
            go_wp2_with fail
            go_quiet (fail)
            generalize hw2 : World.drewN _ _ = w2
            have own2 : w2.ownsRow w.heap.size 3 1 (.slice (some ⟨g, 0, none⟩) k cap) k (ints (ofN ps)) := by rw [← hw2]; exact hown
            have HB2 : Hid (Below w.heap.size w w2) := by show Below _ _ _; rw [← hw2]; first | exact below_drewN HB.out _ | exact below_drewN (below_drewN HB.out _) _
            have HGT : Hid (∀ j, a ≤ j → j < k → xs.getD k 0 < xs.getD (ps.getD j 0) 0) := HGA.out
            clear hw2 hown
            have z2 : w.heap.size ≤ w2.heap.size := HB2.out.size
            have hgw : g < w2.heap.size := (own2.lt g rfl).2
            have e1 : (w2.alloc (.cells #[] 3)).ownsRow w2.heap.size 3 1 (.slice (some ⟨w2.heap.size, 0, none⟩) 0 0) 0 [] := World.ownsRow_made w2 #[] 0 (Nat.le_refl _) (by unfold maxLen; omega) rfl
            have own2a := own2.alloc (.cells #[] 3)
            have ht1 : Hid (((ofN ps).take a).length = a) := by show _ = _; rw [List.length_take, ofN_length, HOL.out]; omega
            have hl1' : Hid ((ints ((ofN ps).take a)).length = a * 1) := by show _ = _; rw [ints_length, ht1.out, Nat.mul_one]
            have n1 := own_news own2a 0 ((ofN ps).take a) (fun j hj => by
              rw [ht1.out] at hj
              exact ⟨by omega, by simp [List.getD, hj]⟩)
            have o1 := ints_one ((ofN ps).take a)
            have s1 : w2.heap.size ≤ (w2.alloc (.cells #[] 3)).heap.size := by rw [hsz]; omega
            have cc1 : ¬ ((cap : Int) < (a : Int)) := by omega
            by_cases hca : cap = a
            · obtain rfl : k = cap := by omega
              obtain rfl : k = a := by omega
              clear hca
              have hkk : k - k = 0 := Nat.sub_self k
              go_wp2_with (first
                | (at_builtin; (
                   refine wpList_append_own _ rfl (.tmp 35) (.tmp 38) 29 rfl w2.heap.size 3 i0 (.int .i64 0) 1 8 Try.underlying29 hi0 hq0 hq1 hq2 rfl (by decide) _ _ _ rfl e1 ⟨g, 0, none⟩ k k (ints ((ofN ps).take k)) rfl hl1'.out n1 o1 (by unfold maxLen; omega) (by omega) s1 ?_
                   intro v1 w3 hown3 hgrow3 hnil3
                   simp only [Nat.zero_add, List.nil_append] at hown3
                   obtain ⟨g1, cap1, rfl, hg1, hg1', hcp1⟩ := own_some hown3 (fun e => by have := (hnil3.1 e).1; cases this)
                   obtain ⟨own3, z3⟩ := append_keep' own2 hgrow3 (by omega)
                   have e3 := hown3.alloc (.cells #[.int .i64 (k : Int)] 3)
                   have n3 := news_one w3 (k : Int) 3
                   have o3 := one_cell (k : Int)
                   have s3 : w2.heap.size ≤ (w3.alloc (.cells #[.int .i64 (k : Int)] 3)).heap.size := by rw [hsz]; omega))
                | (at_builtin; (
                   refine wpList_append_own _ rfl (.tmp 40) (.tmp 42) 29 rfl w2.heap.size 3 i0 (.int .i64 0) 1 8 Try.underlying29 hi0 hq0 hq1 hq2 rfl (by decide) _ _ _ rfl e3 ⟨w3.heap.size, 0, none⟩ 1 1 [.int .i64 (k : Int)] rfl rfl n3 o3 (by unfold maxLen; omega) (by omega) s3 ?_
                   intro v2 w4 hown4 hgrow4 hnil4
                   obtain ⟨g2, cap2, rfl, hg2, hg2', hcp2⟩ := own_some hown4 (fun e => by have := (hnil4.1 e).2; cases this)
                   obtain ⟨own4, z4⟩ := append_keep' own3 hgrow4 (by omega)
                   have n4 := own_news own4 0 ((ofN ps).drop k) (fun j hj => by
       rw [List.length_drop, ofN_length, HOL.out] at hj
       exact ⟨by omega, by omega⟩)
                   have o4 := ints_one ((ofN ps).drop k)
                   have hl4 : Hid ((ints ((ofN ps).drop k)).length = 0 * 1) := by show _ = _; rw [ints_length, List.length_drop, ofN_length, HOL.out, hkk]
                   have s4 : w2.heap.size ≤ w4.heap.size := by omega))
                | (at_builtin; (refine wpList_append_own _ rfl (.tmp 44) (.tmp 47) 29 rfl w2.heap.size 3 i0 (.int .i64 0) 1 8 Try.underlying29 hi0 hq0 hq1 hq2 rfl (by decide) _ _ _ rfl hown4 ⟨g, 0, none⟩ 0 0 (ints ((ofN ps).drop k)) rfl hl4.out n4 o4 (by unfold maxLen; omega) (by omega) s4 ?_; intro v3 w5 hown5 hgrow5 hnil5)))
              obtain ⟨g3, cap3, rfl, hg3, hg3', hcp3⟩ := own_some hown5 (fun e => by have := (hnil5.1 e).1; cases this)
              have hl5 : Hid (k + 1 + 0 = k + 1) := by show _ = _; omega
              have HM := Lib.hid (sort_step HPS.out (Nat.le_refl _) HGT.out HLE.out hl5.out hown5 hcp3 HB2.out hgrow3 hgrow4 hgrow5 hg1 hg2)
              clear own2 own2a own3 own4 hown3 hown4 hown5 hgrow3 hgrow4 hgrow5 e1 e3
              refine ⟨⟨k + 1, by omega, by rw [Int.natCast_add]; rfl, ?_⟩, by simp [intOf]; omega⟩
              exact HM.out
            · have hcb : (cap = a) = False := by simp [hca]
              go_wp2_with (first
                | (at_builtin; (
                   refine wpList_append_own _ rfl (.tmp 35) (.tmp 38) 29 rfl w2.heap.size 3 i0 (.int .i64 0) 1 8 Try.underlying29 hi0 hq0 hq1 hq2 rfl (by decide) _ _ _ rfl e1 ⟨g, 0, none⟩ a cap (ints ((ofN ps).take a)) rfl hl1'.out n1 o1 (by unfold maxLen; omega) (by omega) s1 ?_
                   intro v1 w3 hown3 hgrow3 hnil3
                   simp only [Nat.zero_add, List.nil_append] at hown3
                   obtain ⟨g1, cap1, rfl, hg1, hg1', hcp1⟩ := own_some hown3 (fun e => by have := (hnil3.1 e).1; cases this)
                   obtain ⟨own3, z3⟩ := append_keep' own2 hgrow3 (by omega)
                   have e3 := hown3.alloc (.cells #[.int .i64 (k : Int)] 3)
                   have n3 := news_one w3 (k : Int) 3
                   have o3 := one_cell (k : Int)
                   have s3 : w2.heap.size ≤ (w3.alloc (.cells #[.int .i64 (k : Int)] 3)).heap.size := by rw [hsz]; omega))
                | (at_builtin; (
                   refine wpList_append_own _ rfl (.tmp 40) (.tmp 42) 29 rfl w2.heap.size 3 i0 (.int .i64 0) 1 8 Try.underlying29 hi0 hq0 hq1 hq2 rfl (by decide) _ _ _ rfl e3 ⟨w3.heap.size, 0, none⟩ 1 1 [.int .i64 (k : Int)] rfl rfl n3 o3 (by unfold maxLen; omega) (by omega) s3 ?_
                   intro v2 w4 hown4 hgrow4 hnil4
                   obtain ⟨g2, cap2, rfl, hg2, hg2', hcp2⟩ := own_some hown4 (fun e => by have := (hnil4.1 e).2; cases this)
                   obtain ⟨own4, z4⟩ := append_keep' own3 hgrow4 (by omega)
                   have n4 := own_news own4 a ((ofN ps).drop a) (fun j hj => by
       rw [List.length_drop, ofN_length, HOL.out] at hj
       exact ⟨by omega, by simp [List.getD, List.getElem?_drop]⟩)
                   have o4 := ints_one ((ofN ps).drop a)
                   have hl4 : Hid ((ints ((ofN ps).drop a)).length = (k - a) * 1) := by show _ = _; rw [ints_length, List.length_drop, ofN_length, HOL.out, Nat.mul_one]
                   have s4 : w2.heap.size ≤ w4.heap.size := by omega))
                | (at_builtin; (refine wpList_append_own _ rfl (.tmp 44) (.tmp 47) 29 rfl w2.heap.size 3 i0 (.int .i64 0) 1 8 Try.underlying29 hi0 hq0 hq1 hq2 rfl (by decide) _ _ _ rfl hown4 ⟨g, a, none⟩ (k - a) (cap - a) (ints ((ofN ps).drop a)) rfl hl4.out n4 o4 (by unfold maxLen; omega) (by omega) s4 ?_; intro v3 w5 hown5 hgrow5 hnil5)))
              obtain ⟨g3, cap3, rfl, hg3, hg3', hcp3⟩ := own_some hown5 (fun e => by have := (hnil5.1 e).1; cases this)
              have hl5 : Hid (a + 1 + (k - a) = k + 1) := by show _ = _; omega
              have HM := Lib.hid (sort_step HPS.out hak HGT.out HLE.out hl5.out hown5 hcp3 HB2.out hgrow3 hgrow4 hgrow5 hg1 hg2)
              clear own2 own2a own3 own4 hown3 hown4 hown5 hgrow3 hgrow4 hgrow5 e1 e3
              refine ⟨⟨k + 1, by omega, by rw [Int.natCast_add]; rfl, ?_⟩, by simp [intOf]; omega⟩
              exact HM.out
        · have hd0 : decide ((0 : Int) < (a : Int)) = false := by simp; omega
          have hd0n : decide (0 < a) = false := by simpa using h0
          have HLE : Hid (0 < a → xs.getD (ps.getD (a - 1) 0) 0 ≤ xs.getD k 0) := fun h1 => absurd h1 h0
          clear hvk
          go_wp2_with fail
          go_quiet (fail)
          generalize hw2 : World.drewN _ _ = w2
          have own2 : w2.ownsRow w.heap.size 3 1 (.slice (some ⟨g, 0, none⟩) k cap) k (ints (ofN ps)) := by rw [← hw2]; exact hown
          have HB2 : Hid (Below w.heap.size w w2) := by show Below _ _ _; rw [← hw2]; first | exact below_drewN HB.out _ | exact below_drewN (below_drewN HB.out _) _
          have HGT : Hid (∀ j, a ≤ j → j < k → xs.getD k 0 < xs.getD (ps.getD j 0) 0) := HGA.out
          clear hw2 hown
          have z2 : w.heap.size ≤ w2.heap.size := HB2.out.size
          have hgw : g < w2.heap.size := (own2.lt g rfl).2
          have e1 : (w2.alloc (.cells #[] 3)).ownsRow w2.heap.size 3 1 (.slice (some ⟨w2.heap.size, 0, none⟩) 0 0) 0 [] := World.ownsRow_made w2 #[] 0 (Nat.le_refl _) (by unfold maxLen; omega) rfl
          have own2a := own2.alloc (.cells #[] 3)
          have ht1 : Hid (((ofN ps).take a).length = a) := by show _ = _; rw [List.length_take, ofN_length, HOL.out]; omega
          have hl1' : Hid ((ints ((ofN ps).take a)).length = a * 1) := by show _ = _; rw [ints_length, ht1.out, Nat.mul_one]
          have n1 := own_news own2a 0 ((ofN ps).take a) (fun j hj => by
            rw [ht1.out] at hj
            exact ⟨by omega, by simp [List.getD, hj]⟩)
          have o1 := ints_one ((ofN ps).take a)
          have s1 : w2.heap.size ≤ (w2.alloc (.cells #[] 3)).heap.size := by rw [hsz]; omega
          have cc1 : ¬ ((cap : Int) < (a : Int)) := by omega
          by_cases hca : cap = a
          · obtain rfl : k = cap := by omega
            obtain rfl : k = a := by omega
            clear hca
            have hkk : k - k = 0 := Nat.sub_self k
            go_wp2_with (first
              | (at_builtin; (
                 refine wpList_append_own _ rfl (.tmp 35) (.tmp 38) 29 rfl w2.heap.size 3 i0 (.int .i64 0) 1 8 Try.underlying29 hi0 hq0 hq1 hq2 rfl (by decide) _ _ _ rfl e1 ⟨g, 0, none⟩ k k (ints ((ofN ps).take k)) rfl hl1'.out n1 o1 (by unfold maxLen; omega) (by omega) s1 ?_
                 intro v1 w3 hown3 hgrow3 hnil3
                 simp only [Nat.zero_add, List.nil_append] at hown3
                 obtain ⟨g1, cap1, rfl, hg1, hg1', hcp1⟩ := own_some hown3 (fun e => by have := (hnil3.1 e).1; cases this)
                 obtain ⟨own3, z3⟩ := append_keep' own2 hgrow3 (by omega)
                 have e3 := hown3.alloc (.cells #[.int .i64 (k : Int)] 3)
                 have n3 := news_one w3 (k : Int) 3
                 have o3 := one_cell (k : Int)
                 have s3 : w2.heap.size ≤ (w3.alloc (.cells #[.int .i64 (k : Int)] 3)).heap.size := by rw [hsz]; omega))
              | (at_builtin; (
                 refine wpList_append_own _ rfl (.tmp 40) (.tmp 42) 29 rfl w2.heap.size 3 i0 (.int .i64 0) 1 8 Try.underlying29 hi0 hq0 hq1 hq2 rfl (by decide) _ _ _ rfl e3 ⟨w3.heap.size, 0, none⟩ 1 1 [.int .i64 (k : Int)] rfl rfl n3 o3 (by unfold maxLen; omega) (by omega) s3 ?_
                 intro v2 w4 hown4 hgrow4 hnil4
                 obtain ⟨g2, cap2, rfl, hg2, hg2', hcp2⟩ := own_some hown4 (fun e => by have := (hnil4.1 e).2; cases this)
                 obtain ⟨own4, z4⟩ := append_keep' own3 hgrow4 (by omega)
                 have n4 := own_news own4 0 ((ofN ps).drop k) (fun j hj => by
       rw [List.length_drop, ofN_length, HOL.out] at hj
       exact ⟨by omega, by omega⟩)
                 have o4 := ints_one ((ofN ps).drop k)
                 have hl4 : Hid ((ints ((ofN ps).drop k)).length = 0 * 1) := by show _ = _; rw [ints_length, List.length_drop, ofN_length, HOL.out, hkk]
                 have s4 : w2.heap.size ≤ w4.heap.size := by omega))
              | (at_builtin; (refine wpList_append_own _ rfl (.tmp 44) (.tmp 47) 29 rfl w2.heap.size 3 i0 (.int .i64 0) 1 8 Try.underlying29 hi0 hq0 hq1 hq2 rfl (by decide) _ _ _ rfl hown4 ⟨g, 0, none⟩ 0 0 (ints ((ofN ps).drop k)) rfl hl4.out n4 o4 (by unfold maxLen; omega) (by omega) s4 ?_; intro v3 w5 hown5 hgrow5 hnil5)))
            obtain ⟨g3, cap3, rfl, hg3, hg3', hcp3⟩ := own_some hown5 (fun e => by have := (hnil5.1 e).1; cases this)
            have hl5 : Hid (k + 1 + 0 = k + 1) := by show _ = _; omega
            have HM := Lib.hid (sort_step HPS.out (Nat.le_refl _) HGT.out HLE.out hl5.out hown5 hcp3 HB2.out hgrow3 hgrow4 hgrow5 hg1 hg2)
            clear own2 own2a own3 own4 hown3 hown4 hown5 hgrow3 hgrow4 hgrow5 e1 e3
            refine ⟨⟨k + 1, by omega, by rw [Int.natCast_add]; rfl, ?_⟩, by simp [intOf]; omega⟩
            exact HM.out
          · have hcb : (cap = a) = False := by simp [hca]
            go_wp2_with (first
              | (at_builtin; (
                 refine wpList_append_own _ rfl (.tmp 35) (.tmp 38) 29 rfl w2.heap.size 3 i0 (.int .i64 0) 1 8 Try.underlying29 hi0 hq0 hq1 hq2 rfl (by decide) _ _ _ rfl e1 ⟨g, 0, none⟩ a cap (ints ((ofN ps).take a)) rfl hl1'.out n1 o1 (by unfold maxLen; omega) (by omega) s1 ?_
                 intro v1 w3 hown3 hgrow3 hnil3
                 simp only [Nat.zero_add, List.nil_append] at hown3
                 obtain ⟨g1, cap1, rfl, hg1, hg1', hcp1⟩ := own_some hown3 (fun e => by have := (hnil3.1 e).1; cases this)
                 obtain ⟨own3, z3⟩ := append_keep' own2 hgrow3 (by omega)
                 have e3 := hown3.alloc (.cells #[.int .i64 (k : Int)] 3)
                 have n3 := news_one w3 (k : Int) 3
                 have o3 := one_cell (k : Int)
                 have s3 : w2.heap.size ≤ (w3.alloc (.cells #[.int .i64 (k : Int)] 3)).heap.size := by rw [hsz]; omega))
              | (at_builtin; (
                 refine wpList_append_own _ rfl (.tmp 40) (.tmp 42) 29 rfl w2.heap.size 3 i0 (.int .i64 0) 1 8 Try.underlying29 hi0 hq0 hq1 hq2 rfl (by decide) _ _ _ rfl e3 ⟨w3.heap.size, 0, none⟩ 1 1 [.int .i64 (k : Int)] rfl rfl n3 o3 (by unfold maxLen; omega) (by omega) s3 ?_
                 intro v2 w4 hown4 hgrow4 hnil4
                 obtain ⟨g2, cap2, rfl, hg2, hg2', hcp2⟩ := own_some hown4 (fun e => by have := (hnil4.1 e).2; cases this)
                 obtain ⟨own4, z4⟩ := append_keep' own3 hgrow4 (by omega)
                 have n4 := own_news own4 a ((ofN ps).drop a) (fun j hj => by
       rw [List.length_drop, ofN_length, HOL.out] at hj
       exact ⟨by omega, by simp [List.getD, List.getElem?_drop]⟩)
                 have o4 := ints_one ((ofN ps).drop a)
                 have hl4 : Hid ((ints ((ofN ps).drop a)).length = (k - a) * 1) := by show _ = _; rw [ints_length, List.length_drop, ofN_length, HOL.out, Nat.mul_one]
                 have s4 : w2.heap.size ≤ w4.heap.size := by omega))
              | (at_builtin; (refine wpList_append_own _ rfl (.tmp 44) (.tmp 47) 29 rfl w2.heap.size 3 i0 (.int .i64 0) 1 8 Try.underlying29 hi0 hq0 hq1 hq2 rfl (by decide) _ _ _ rfl hown4 ⟨g, a, none⟩ (k - a) (cap - a) (ints ((ofN ps).drop a)) rfl hl4.out n4 o4 (by unfold maxLen; omega) (by omega) s4 ?_; intro v3 w5 hown5 hgrow5 hnil5)))
            obtain ⟨g3, cap3, rfl, hg3, hg3', hcp3⟩ := own_some hown5 (fun e => by have := (hnil5.1 e).1; cases this)
            have hl5 : Hid (a + 1 + (k - a) = k + 1) := by show _ = _; omega
            have HM := Lib.hid (sort_step HPS.out hak HGT.out HLE.out hl5.out hown5 hcp3 HB2.out hgrow3 hgrow4 hgrow5 hg1 hg2)
            clear own2 own2a own3 own4 hown3 hown4 hown5 hgrow3 hgrow4 hgrow5 e1 e3
            refine ⟨⟨k + 1, by omega, by rw [Int.natCast_add]; rfl, ?_⟩, by simp [intOf]; omega⟩
            exact HM.out
    · obtain rfl : k = xs.length := by omega
      have H : Hid (SortedTo w xs (.returned (.slice (some ⟨g, 0, none⟩) xs.length cap)) wo) := by
        have e := hps.len
        have hown' : wo.ownsRow w.heap.size 3 1 (.slice (some ⟨g, 0, none⟩) (ofN ps).length cap) (ofN ps).length (ints (ofN ps)) := by rw [ofN_length, e]; exact hown
        obtain ⟨A', c', e1, _, ho⟩ := own_of_row hown'
        injection e1 with e1 e2 e3
        exact ⟨some ⟨g, 0, none⟩, cap, ps, by rw [e], e1 ▸ ho, hps, hbel⟩
      clear hown hps hbel
      go_wp2
      go_ret
      exact H.out

end Go.Proofs.Ytilhholjbjhaeaa
