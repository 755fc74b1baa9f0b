/-
  An order is drawn: so many numbers below so many, in new memory; only the reader is written.
-/
import Derived.Test.YtilhholjbjhaeaaDraw3
namespace Go.Proofs.Ytilhholjbjhaeaa
open Go.RowKit

theorem own_some {w : World} {B : Nat} {e : TypeId} {v : Value} {n : Nat} {xs : List Value} (h : w.ownsRow B e 1 v n xs) (hv : ¬ v = .slice none 0 0) : ∃ g cap, v = .slice (some ⟨g, 0, none⟩) n cap ∧ B ≤ g ∧ g < w.heap.size ∧ n ≤ cap := by
  rcases h.2 with ⟨h1, _⟩ | ⟨g, cap, cur, hv', hb, hg, hnc, _⟩
  · exact absurd h1 hv
  · refine ⟨g, cap, hv', hb, ?_, hnc⟩
    rw [hv'] at h
    exact (h.lt g rfl).2
theorem own_lower {w : World} {B B' : Nat} {e : TypeId} {v : Value} {n : Nat} {xs : List Value} (h : w.ownsRow B e 1 v n xs) (hB : B' ≤ B) : w.ownsRow B' e 1 v n xs := by
  refine ⟨h.1, ?_⟩
  rcases h.2 with h1 | ⟨g, cap, cur, hv', hb, r⟩
  · exact .inl h1
  · exact .inr ⟨g, cap, cur, hv', Nat.le_trans hB hb, r⟩
/-- The numbers of an owned row, read from a place on. -/
theorem own_news {w : World} {B : Nat} {e : TypeId} {g n cap : Nat} {xs : List Int} (h : w.ownsRow B e 1 (.slice (some ⟨g, 0, none⟩) n cap) n (ints xs)) (a : Nat) (ys : List Int) (hy : ∀ j, j < ys.length → a + j < n ∧ xs.getD (a + j) 0 = ys.getD j 0) :
    ∀ j u, (ints ys)[j]? = some u → w.cell? ((⟨g, a, none⟩ : Addr).add j) = some u := fun j u hu => by
  have hj : j < ys.length := by
    have := (List.getElem?_eq_some_iff.1 hu).1
    rwa [ints_length] at this
  obtain ⟨h1, h2⟩ := hy j hj
  have hl : n = xs.length := by have := h.1; rw [ints_length] at this; omega
  rw [ints_at ys j hj] at hu
  rw [addr_add, h.cellAt (a + j) (by omega), ints_at xs (a + j) (by omega), h2]
  exact hu

/-- What an append to another row leaves of the row at g, and of the reader. -/
theorem append_keep {w w' : World} {R g k cap B : Nat} {A : Option Addr} {c : Nat} {bs : List Int} {q : Nat} {os : List Int} {o : Obj} {n' c' gv : Nat} (own : w.ownsRow B 3 1 (.slice (some ⟨g, 0, none⟩) k cap) k (ints os)) (rd : Rd w R A c bs q) (hR : R < gv)
    (hgr : (w.alloc o).grownBy w' (Value.ownBlock (.slice (some ⟨gv, 0, none⟩) n' c'))) (hne : g ≠ gv) :
    w'.ownsRow B 3 1 (.slice (some ⟨g, 0, none⟩) k cap) k (ints os) ∧ Rd w' R A c bs q ∧ w.heap.size + 1 ≤ w'.heap.size := by
  have z := hgr.size
  rw [hsz] at z
  exact ⟨(own.alloc o).kept hgr (.inr (fun e => hne (Option.some.inj e))), (rd.alloc o).of_block (fun i hi => hgr.block i (by rw [hsz]; have := rd.lt; omega) (fun e => by have e' : i = gv := Option.some.inj e; omega)) (by rw [hsz]; exact z), z⟩

/-- What the drawing of an order leaves. -/
def OrderTo (w : World) (R : Nat) (A : Option Addr) (c : Nat) (bs : List Int) (q many : Nat) (n : Int) (e : Ending) (w' : World) : Prop :=
  ∃ A' c', ∃ os : List Int, e = .returned (.slice A' os.length c') ∧ Own w' w.heap.size w'.heap.size A' os ∧ os.length ≤ many + 1 ∧ (n = 0 → os.length = many ∧ ∀ x ∈ os, 0 ≤ x ∧ x < many) ∧ (∃ q', q' ≤ q + many + 1 ∧ Rd w' R A c bs q') ∧ Chg R (R + 1) w w'

/-- What holds between the numbers that are drawn. -/
def OMid (w : World) (R : Nat) (A : Option Addr) (c : Nat) (bs : List Int) (q k : Nat) (v : Value) (wr : World) : Prop :=
  ∃ g cap, ∃ os : List Int, v = .slice (some ⟨g, 0, none⟩) k cap ∧ os.length = k ∧ (∀ x ∈ os, 0 ≤ x ∧ x < k) ∧ k ≤ cap ∧ wr.ownsRow w.heap.size 3 1 (.slice (some ⟨g, 0, none⟩) k cap) k (ints os) ∧ Rd wr R A c bs (q + k) ∧ Chg R (R + 1) w wr ∧ w.heap.size ≤ wr.heap.size

theorem Chg.grow {w u u' : World} {lo hi gv n' c' : Nat} (h : Chg lo hi w u) (hg : u.grownBy u' (Value.ownBlock (.slice (some ⟨gv, 0, none⟩) n' c'))) (hgv : w.heap.size ≤ gv) : Chg lo hi w u' :=
  ⟨hg.os.trans h.os, hg.tape.trans h.tape, hg.output.trans h.output, Nat.le_trans h.size hg.size, fun k hk hn => (hg.block k (Nat.lt_of_lt_of_le hk h.size) (fun e => by have e' : k = gv := Option.some.inj e; omega)).trans (h.block k hk hn)⟩
theorem Rd.grow {u u' : World} {R : Nat} {A : Option Addr} {c : Nat} {bs : List Int} {q gv n' c' : Nat} (h : Rd u R A c bs q) (hg : u.grownBy u' (Value.ownBlock (.slice (some ⟨gv, 0, none⟩) n' c'))) (hR : R < gv) : Rd u' R A c bs q :=
  h.of_block (fun i hi => hg.block i (by have := h.lt; omega) (fun e => by have e' : i = gv := Option.some.inj e; omega)) hg.size
theorem order_step {w wr w2 w3 w4 w5 : World} {R : Nat} {A : Option Addr} {c : Nat} {bs : List Int} {q k a n5 g1 g2 g3 cap3 n1 c1 n2 c2 : Nat} {os : List Int} {o o' : Obj} (hol : os.length = k) (hos : ∀ x ∈ os, 0 ≤ x ∧ x < (k : Int)) (hak : a ≤ k) (hn5 : n5 = k + 1)
    (hown5 : w5.ownsRow w2.heap.size 3 1 (.slice (some ⟨g3, 0, none⟩) n5 cap3) n5 (ints (os.take a) ++ [.int .i64 (k : Int)] ++ ints (os.drop a))) (hcp3 : n5 ≤ cap3) (rd4 : Rd w4 R A c bs (q + k + 1)) (hch : Chg R (R + 1) w wr) (hch2 : Chg R (R + 1) wr w2) (hRw : R < w.heap.size)
    (hgrow3 : (w2.alloc o).grownBy w3 (Value.ownBlock (.slice (some ⟨w2.heap.size, 0, none⟩) 0 0))) (hgrow4 : (w3.alloc o').grownBy w4 (Value.ownBlock (.slice (some ⟨g1, 0, none⟩) n1 c1))) (hgrow5 : w4.grownBy w5 (Value.ownBlock (.slice (some ⟨g2, 0, none⟩) n2 c2))) (hg1 : w2.heap.size ≤ g1) (hg2 : w2.heap.size ≤ g2) :
    OMid w R A c bs q (k + 1) (.slice (some ⟨g3, 0, none⟩) n5 cap3) w5 := by
  subst hn5
  have z : w.heap.size ≤ w2.heap.size := (hch.trans hch2).size
  refine ⟨g3, cap3, os.take a ++ [(k : Int)] ++ os.drop a, rfl, by simp; omega, ?_, hcp3, ?_, rd4.grow hgrow5 (by omega), ?_, ?_⟩
  · intro x hx
    rcases List.mem_append.1 hx with hx | hx
    · rcases List.mem_append.1 hx with hx | hx
      · have := hos x (List.mem_of_mem_take hx); omega
      · simp at hx; omega
    · have := hos x (List.mem_of_mem_drop hx); omega
  · have e : ints (os.take a ++ [(k : Int)] ++ os.drop a) = ints (os.take a) ++ [.int .i64 (k : Int)] ++ ints (os.drop a) := by simp [ints]
    rw [e]
    exact own_lower hown5 z
  · exact ((((hch.trans hch2).trans (Chg.alloc _ o)).grow hgrow3 z).trans (Chg.alloc _ o')).grow hgrow4 (by omega) |>.grow hgrow5 (by omega)
  · have z3 := hgrow3.size
    have z4 := hgrow4.size
    rw [hsz] at z3 z4
    have z5 := hgrow5.size
    omega
theorem odd_zero (R : Nat) (w : World) :
    Calls Try.prog 40 #[.pointer (some ⟨R, 0, none⟩), .int .i64 0] w (fun e w' => e = .returned (.bool false) ∧ w' = w) := by
  go_enter Try.func40, Try.ntmps40
  go_wp2
  go_ret
  exact ⟨rfl, rfl⟩
theorem drawnOrder_end {w w' : World} {R : Nat} {A : Option Addr} {c : Nat} {bs : List Int} {q many k g cap q' : Nat} {n : Int} {os : List Int} (own : w'.ownsRow w.heap.size 3 1 (.slice (some ⟨g, 0, none⟩) k cap) k (ints os)) (hl : os.length = k) (hk : k ≤ many + 1) (h0 : n = 0 → k = many ∧ ∀ x ∈ os, 0 ≤ x ∧ x < (many : Int)) (hq : q' ≤ q + many + 1) (rd : Rd w' R A c bs q') (hch : Chg R (R + 1) w w') :
    OrderTo w R A c bs q many n (.returned (.slice (some ⟨g, 0, none⟩) k cap)) w' := by
  subst hl
  obtain ⟨A', c', e, _, ho⟩ := own_of_row own
  exact ⟨A', c', os, by rw [e], ho, hk, h0, ⟨q', hq, rd⟩, hch⟩

set_option maxRecDepth 100000 in
set_option maxRecDepth 10000 in
set_option maxHeartbeats 2000000 in
theorem l20Order_any (R : Nat) (A : Option Addr) (c : Nat) (bs : List Int) (q many : Nat) (n : Int) (w : World) (h : Rd w R A c bs q) (hm : many ≤ 5) (hn : 0 ≤ n) (hn' : n ≤ 1000000) (hl : bs.length ≤ 2000) (hq : q ≤ 100000) :
    Calls Try.prog 43 #[.pointer (some ⟨R, 0, none⟩), .int .i64 (many : Int), .int .i64 n] w (OrderTo w R A c bs q many n) := by
  obtain ⟨i0, hi0, hq0, hq1, hq2⟩ := info_parts info_int
  have hRw := h.lt
  have mid0 : OMid w R A c bs q 0 (.slice (some ⟨w.heap.size, 0, none⟩) 0 0) (w.alloc (.cells #[] 3)) :=
    ⟨w.heap.size, 0, [], rfl, rfl, by simp, Nat.le_refl _, World.ownsRow_made w #[] 0 (Nat.le_refl _) (by unfold maxLen; omega) rfl, h.alloc _, Chg.alloc _ _, by simp⟩
  go_enter Try.func43, Try.ntmps43
  go_wp2
  go_loopw [7, 8] (fun v i wr => ∃ k : Nat, k ≤ many ∧ i = .int .i64 k ∧ OMid w R A c bs q k v wr) (fun _ i _ => many - (intOf i).toNat)
  case atStart => exact ⟨0, Nat.zero_le _, rfl, mid0⟩
  case round =>
    obtain ⟨k, hk, rfl, hmid⟩ := hrel
    clear mid0
    obtain ⟨g, cap, os, rfl, hol, hos, hkc, hown, rd, hch, hsz'⟩ := hmid
    have HOL := Lib.hid hol
    clear hol
    by_cases hlt : k < many
    · have hl1 : (1 : Int) ≤ (k : Int) + 1 := by omega
      have hl2 : (k : Int) + 1 ≤ 1000000 := by omega
      have hm5 : (k : Int) < (many : Int) := by omega
      go_wp2_with fail
      refine (pick_to R A c bs (q + k) ((k : Int) + 1) _ rd hl1 hl2 hl (by omega)).mono ?_
      rintro e w2 ⟨at_, rfl, hat0, hat1, rd2, hch2⟩
      obtain ⟨a, rfl⟩ := Int.eq_ofNat_of_zero_le hat0
      have hak : a ≤ k := by omega
      have z2 := hch2.size
      have own2 := own_kept hown hch2 hRw
      have hgw : g < w2.heap.size := (own2.lt g rfl).2
      have e1 : (w2.alloc (.cells #[] 3)).ownsRow w2.heap.size 3 1 (.slice (some ⟨w2.heap.size, 0, none⟩) 0 0) 0 [] := World.ownsRow_made w2 #[] 0 (Nat.le_refl _) (by unfold maxLen; omega) rfl
      have own2a := own2.alloc (.cells #[] 3)
      have ht1 : Hid ((os.take a).length = a) := by show _ = _; rw [List.length_take, HOL.out]; omega
      have hl1' : Hid ((ints (os.take a)).length = a * 1) := by show _ = _; rw [ints_length, ht1.out, Nat.mul_one]
      have n1 := own_news own2a 0 (os.take a) (fun j hj => by
        rw [ht1.out] at hj
        exact ⟨by omega, by simp [List.getD, hj]⟩)
      have o1 := ints_one (os.take a)
      have s1 : w2.heap.size ≤ (w2.alloc (.cells #[] 3)).heap.size := by rw [hsz]; omega
      have cc1 : ¬ ((cap : Int) < (a : Int)) := by omega
      clear hown hat0 hat1 rd
      by_cases hca : cap = a
      · obtain rfl : k = cap := by omega
        obtain rfl : k = a := by omega
        clear hca
        have hkk : k - k = 0 := Nat.sub_self k
        go_wp2_with (first
          | (at_builtin; (
             refine wpList_append_own _ rfl (.tmp 22) (.tmp 25) 29 rfl w2.heap.size 3 i0 (.int .i64 0) 1 8 Try.underlying29 hi0 hq0 hq1 hq2 rfl (by decide) _ _ _ rfl e1 ⟨g, 0, none⟩ k k (ints (os.take k)) rfl hl1'.out n1 o1 (by unfold maxLen; omega) (by omega) s1 ?_
             intro v1 w3 hown3 hgrow3 hnil3
             simp only [Nat.zero_add, List.nil_append] at hown3
             obtain ⟨g1, cap1, rfl, hg1, hg1', hcp1⟩ := own_some hown3 (fun e => by have := (hnil3.1 e).1; cases this)
             obtain ⟨own3, rd3, z3⟩ := append_keep own2 rd2 (by omega) hgrow3 (by omega)
             have e3 := hown3.alloc (.cells #[.int .i64 (k : Int)] 3)
             have n3 := news_one w3 (k : Int) 3
             have o3 := one_cell (k : Int)
             have s3 : w2.heap.size ≤ (w3.alloc (.cells #[.int .i64 (k : Int)] 3)).heap.size := by rw [hsz]; omega))
          | (at_builtin; (
             refine wpList_append_own _ rfl (.tmp 27) (.tmp 29) 29 rfl w2.heap.size 3 i0 (.int .i64 0) 1 8 Try.underlying29 hi0 hq0 hq1 hq2 rfl (by decide) _ _ _ rfl e3 ⟨w3.heap.size, 0, none⟩ 1 1 [.int .i64 (k : Int)] rfl rfl n3 o3 (by unfold maxLen; omega) (by omega) s3 ?_
             intro v2 w4 hown4 hgrow4 hnil4
             obtain ⟨g2, cap2, rfl, hg2, hg2', hcp2⟩ := own_some hown4 (fun e => by have := (hnil4.1 e).2; cases this)
             obtain ⟨own4, rd4, z4⟩ := append_keep own3 rd3 (by omega) hgrow4 (by omega)
             have n4 := own_news own4 0 (os.drop k) (fun j hj => by
               rw [List.length_drop, HOL.out] at hj
               exact ⟨by omega, by omega⟩)
             have o4 := ints_one (os.drop k)
             have hl4 : Hid ((ints (os.drop k)).length = 0 * 1) := by show _ = _; rw [ints_length, List.length_drop, HOL.out, hkk]
             have s4 : w2.heap.size ≤ w4.heap.size := by omega))
          | (at_builtin; go_loud (refine wpList_append_own _ rfl (.tmp 31) (.tmp 34) 29 rfl w2.heap.size 3 i0 (.int .i64 0) 1 8 Try.underlying29 hi0 hq0 hq1 hq2 rfl (by decide) _ _ _ rfl hown4 ⟨g, 0, none⟩ 0 0 (ints (os.drop k)) rfl hl4.out n4 o4 (by unfold maxLen; omega) (by omega) s4 ?_; intro v3 w5 hown5 hgrow5 hnil5)))
        obtain ⟨g3, cap3, rfl, hg3, hg3', hcp3⟩ := own_some hown5 (fun e => by have := (hnil5.1 e).1; cases this)
        have hl5 : Hid (k + 1 + 0 = k + 1) := by show _ = _; omega
        have HM := Lib.hid (order_step HOL.out hos (Nat.le_refl _) hl5.out hown5 hcp3 rd4 hch hch2 hRw hgrow3 hgrow4 hgrow5 hg1 hg2)
        clear own2 own2a own3 own4 rd2 rd3 rd4 hown3 hown4 hown5 hgrow3 hgrow4 hgrow5 e1 e3
        refine ⟨⟨k + 1, by omega, by rw [Int.natCast_add]; rfl, ?_⟩, by simp [intOf]; omega⟩
        exact HM.out
      · have hcb : (cap = a) = False := by simp [hca]
        go_wp2_with (first
          | (at_builtin; (
             refine wpList_append_own _ rfl (.tmp 22) (.tmp 25) 29 rfl w2.heap.size 3 i0 (.int .i64 0) 1 8 Try.underlying29 hi0 hq0 hq1 hq2 rfl (by decide) _ _ _ rfl e1 ⟨g, 0, none⟩ a cap (ints (os.take a)) rfl hl1'.out n1 o1 (by unfold maxLen; omega) (by omega) s1 ?_
             intro v1 w3 hown3 hgrow3 hnil3
             simp only [Nat.zero_add, List.nil_append] at hown3
             obtain ⟨g1, cap1, rfl, hg1, hg1', hcp1⟩ := own_some hown3 (fun e => by have := (hnil3.1 e).1; cases this)
             obtain ⟨own3, rd3, z3⟩ := append_keep own2 rd2 (by omega) hgrow3 (by omega)
             have e3 := hown3.alloc (.cells #[.int .i64 (k : Int)] 3)
             have n3 := news_one w3 (k : Int) 3
             have o3 := one_cell (k : Int)
             have s3 : w2.heap.size ≤ (w3.alloc (.cells #[.int .i64 (k : Int)] 3)).heap.size := by rw [hsz]; omega))
          | (at_builtin; (
             refine wpList_append_own _ rfl (.tmp 27) (.tmp 29) 29 rfl w2.heap.size 3 i0 (.int .i64 0) 1 8 Try.underlying29 hi0 hq0 hq1 hq2 rfl (by decide) _ _ _ rfl e3 ⟨w3.heap.size, 0, none⟩ 1 1 [.int .i64 (k : Int)] rfl rfl n3 o3 (by unfold maxLen; omega) (by omega) s3 ?_
             intro v2 w4 hown4 hgrow4 hnil4
             obtain ⟨g2, cap2, rfl, hg2, hg2', hcp2⟩ := own_some hown4 (fun e => by have := (hnil4.1 e).2; cases this)
             obtain ⟨own4, rd4, z4⟩ := append_keep own3 rd3 (by omega) hgrow4 (by omega)
             have n4 := own_news own4 a (os.drop a) (fun j hj => by
               rw [List.length_drop, HOL.out] at hj
               exact ⟨by omega, by simp [List.getD, List.getElem?_drop]⟩)
             have o4 := ints_one (os.drop a)
             have hl4 : Hid ((ints (os.drop a)).length = (k - a) * 1) := by show _ = _; rw [ints_length, List.length_drop, HOL.out, Nat.mul_one]
             have s4 : w2.heap.size ≤ w4.heap.size := by omega))
          | (at_builtin; (refine wpList_append_own _ rfl (.tmp 31) (.tmp 34) 29 rfl w2.heap.size 3 i0 (.int .i64 0) 1 8 Try.underlying29 hi0 hq0 hq1 hq2 rfl (by decide) _ _ _ rfl hown4 ⟨g, a, none⟩ (k - a) (cap - a) (ints (os.drop a)) rfl hl4.out n4 o4 (by unfold maxLen; omega) (by omega) s4 ?_; intro v3 w5 hown5 hgrow5 hnil5)))
        obtain ⟨g3, cap3, rfl, hg3, hg3', hcp3⟩ := own_some hown5 (fun e => by have := (hnil5.1 e).1; cases this)
        have hl5 : Hid (a + 1 + (k - a) = k + 1) := by show _ = _; omega
        have HM := Lib.hid (order_step HOL.out hos hak hl5.out hown5 hcp3 rd4 hch hch2 hRw hgrow3 hgrow4 hgrow5 hg1 hg2)
        clear own2 own2a own3 own4 rd2 rd3 rd4 hown3 hown4 hown5 hgrow3 hgrow4 hgrow5 e1 e3
        refine ⟨⟨k + 1, by omega, by rw [Int.natCast_add]; rfl, ?_⟩, by simp [intOf]; omega⟩
        exact HM.out
    · obtain rfl : k = many := by omega
      clear hlt
      by_cases hn0 : n = 0
      · subst hn0
        go_wp2_with fail
        refine (odd_zero R _).mono ?_
        rintro e w2 ⟨rfl, rfl⟩
        have H := Lib.hid (drawnOrder_end (q := q) (n := 0) (many := k) (q' := q + k) hown HOL.out (by omega) (fun _ => ⟨rfl, hos⟩) (by omega) rd hch)
        clear hown rd hch
        go_wp2
        go_ret
        exact H.out
      · go_wp2_with fail
        refine (odd_to R A c bs (q + k) n _ rd hn hn' hl (by omega)).mono ?_
        rintro e w2 ⟨b, rfl, ⟨q3, hq3, rd3⟩, hch3⟩
        have own3 := own_kept hown hch3 hRw
        have hch' := hch.trans hch3
        clear hown rd hch
        cases b
        · have H := Lib.hid (drawnOrder_end (q := q) (n := n) (many := k) (q' := q3) own3 HOL.out (by omega) (fun e => absurd e hn0) (by omega) rd3 hch')
          clear own3 rd3 hch' hch3
          go_wp2
          go_ret
          exact H.out
        · have e3 := own3.alloc (.cells #[.int .i64 0] 3)
          have n3 := news_one w2 0 3
          have o3 := one_cell 0
          have s3 : w.heap.size ≤ (w2.alloc (.cells #[.int .i64 0] 3)).heap.size := by rw [hsz]; have := hch'.size; omega
          have rd3a := rd3.alloc (.cells #[.int .i64 0] 3)
          have hcha := hch'.trans (Chg.alloc _ (.cells #[.int .i64 0] 3))
          have hgg := (own3.lt g rfl).1
          go_wp2_with (at_builtin; go_loud (refine wpList_append_own _ rfl (.tmp 39) (.tmp 40) 29 rfl w.heap.size 3 i0 (.int .i64 0) 1 8 Try.underlying29 hi0 hq0 hq1 hq2 rfl (by decide) _ _ _ rfl e3 ⟨w2.heap.size, 0, none⟩ 1 1 [.int .i64 0] rfl rfl n3 o3 (by unfold maxLen; omega) (by omega) s3 ?_; intro v4 w4 hown4 hgrow4 hnil4))
          obtain ⟨g4, cap4, rfl, hg4, hg4', hcp4⟩ := own_some hown4 (fun e => by have := (hnil4.1 e).2; cases this)
          have e4 : ints os ++ [.int .i64 0] = ints (os ++ [0]) := by simp [ints]
          rw [e4] at hown4
          have H := Lib.hid (drawnOrder_end (q := q) (n := n) (many := k) (q' := q3) hown4 (by simp [HOL.out]) (by omega) (fun e => absurd e hn0) (by omega) (rd3a.grow hgrow4 (by omega)) (hcha.grow hgrow4 hgg))
          clear hown4 own3 rd3 rd3a hcha hgrow4 hch' hch3 e3
          try go_wp2
          try go_ret
          exact H.out

end Go.Proofs.Ytilhholjbjhaeaa
