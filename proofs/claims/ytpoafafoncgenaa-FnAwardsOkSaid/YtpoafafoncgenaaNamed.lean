/-
  Both functions NamedCase return the case with the places of an order, and make new memory only.
-/
import Derived.Test.YtpoafafoncgenaaCaseOk
import Derived.Test.YtpoafafoncgenaaOrder2
import Derived.Test.YtpoafafoncgenaaBox
import Derived.Deep.RegionHeld3
namespace Go.Proofs.Ytpoafafoncgenaa
open Go.RowKit

def placed (xs ys : List Int) (n : Nat) : Nat → List Int
  | 0 => List.replicate n 0
  | k + 1 => (placed xs ys n k).set (ys.getD k 0).toNat (xs.getD k 0)
theorem placed_length (xs ys : List Int) (n : Nat) : ∀ k, (placed xs ys n k).length = n
  | 0 => by simp [placed]
  | k + 1 => by simp [placed, placed_length xs ys n k]
noncomputable def namedB (E : Int) (xs ys : List Int) : Bool := caseOkB E xs && orderB xs.length ys
noncomputable def namedE (E : Int) (xs ys : List Int) : Int := if namedB E xs ys = true then E else 0
noncomputable def namedXs (E : Int) (xs ys : List Int) : List Int := if namedB E xs ys = true then placed xs ys xs.length ys.length else []
theorem namedXs_len (E : Int) (xs ys : List Int) : (namedXs E xs ys).length ≤ xs.length := by
  unfold namedXs
  split
  · rw [placed_length]; exact Nat.le_refl _
  · simp
theorem order_iff {n : Nat} {ys : List Int} (h : orderB n ys = true) : ys.length = n ∧ OrdTo ys n ys.length := by simpa [orderB] using h
theorem placed_start {w : World} {G : Nat} {e : TypeId} {xs ys : List Int} {n : Nat} (h : w.ownsRow G e 1 (.slice (some ⟨G, 0, none⟩) n n) n (madeCells (Value.int .i64 0).cells (n * 1)).toList) :
    w.ownsRow G e 1 (.slice (some ⟨G, 0, none⟩) n n) n (ints (placed xs ys n 0)) := by
  have e1 : ints (placed xs ys n 0) = (madeCells (Value.int .i64 0).cells (n * 1)).toList := by
    rw [Nat.mul_one]; show _ = (madeCells #[Value.int .i64 0] n).toList; rw [toList_madeCells_one]; simp [ints, placed]
  rw [e1]; exact h
theorem placed_more {w : World} {G : Nat} {e : TypeId} {n : Nat} {xs ys : List Int} {k y : Nat} (h : w.ownsRow G e 1 (.slice (some ⟨G, 0, none⟩) n n) n (ints (placed xs ys n k))) (hy : ys.getD k 0 = (y : Int)) (V : Int) (hV : xs.getD k 0 = V) :
    (w.setCell ⟨G, y, none⟩ (.int .i64 V)).ownsRow G e 1 (.slice (some ⟨G, 0, none⟩) n n) n (ints (placed xs ys n (k + 1))) := by
  have h1 := (h.stored y (.int .i64 V)).1
  have e2 : placed xs ys n (k + 1) = (placed xs ys n k).set y V := by show (placed xs ys n k).set (ys.getD k 0).toNat (xs.getD k 0) = _; rw [hy, hV, Int.toNat_natCast]
  rw [e2, ints_set]
  exact h1
theorem placed_cell {w : World} {G : Nat} {e : TypeId} {n : Nat} {xs ys : List Int} {k y : Nat} (h : w.ownsRow G e 1 (.slice (some ⟨G, 0, none⟩) n n) n (ints (placed xs ys n k))) (hy : y < n) :
    ∃ u : Int, w.cell? ⟨G, y, none⟩ = some (.int .i64 u) ∧ w.frozen? ⟨G, y, none⟩ = false :=
  ⟨_, by rw [h.cellAt y (by omega), ints_at _ y (by rw [placed_length]; exact hy)], h.frozenAt y⟩
theorem placed_own {w : World} {G : Nat} {e : TypeId} {n : Nat} {xs ys : List Int} {k : Nat} (h : w.ownsRow G e 1 (.slice (some ⟨G, 0, none⟩) n n) n (ints (placed xs ys n k))) :
    Own w G w.heap.size (some ⟨G, 0, none⟩) (placed xs ys n k) := by
  have hl := placed_length xs ys n k
  have h' : w.ownsRow G e 1 (.slice (some ⟨G, 0, none⟩) n n) (placed xs ys n k).length (ints (placed xs ys n k)) := by rw [hl]; exact h
  obtain ⟨A, c, e1, _, ho⟩ := own_of_row h'
  injection e1 with e1 _ _
  subst e1
  exact ho

theorem run_make_rowN {P : Program} (t e : TypeId) (i : TypeInfo) (z : Value) (ht : P.underlying t = some (.slice e)) (hi : P.info? e = some i) (hz : i.zero = some z)
    (kl kc : IntKind) (n c : Nat) (hnc : n ≤ c) (hbytes : i.bytes * c ≤ 281474976710656) (h63 : c ≤ 9223372036854775807) (w : World) :
    (Instr.makeSlice t (.int kl (n : Int)) (.int kc (c : Int))).run P w = .ok (.slice (some ⟨w.heap.size, 0, none⟩) n c) (w.alloc (.cells (madeCells z.cells (c * i.size)) e)) := by
  have hb : (i.bytes : Int) * (c : Int) ≤ 281474976710656 := by
    have h : ((i.bytes * c : Nat) : Int) ≤ 281474976710656 := by omega
    rwa [Int.natCast_mul] at h
  have hr := run_make (P := P) w t e i z ht hi hz kl kc n c (by omega) (by omega) hb (by omega)
  simp only [Int.toNat_natCast] at hr
  exact hr
theorem Box.drew {w : World} {b : Nat} {u v : Value} (h : Box w b u v) : Box w.drew b u v := ⟨h.c0, h.c1, h.f0, h.f1, h.lt⟩
def NMid (w2 : World) (E : Int) (xs ys : List Int) (G O k : Nat) (wr : World) : Prop :=
  Box wr O (.int .i64 E) (.slice (some ⟨G, 0, none⟩) xs.length xs.length) ∧ wr.ownsRow G 3 1 (.slice (some ⟨G, 0, none⟩) xs.length xs.length) xs.length (ints (placed xs ys xs.length k)) ∧ Below w2.heap.size w2 wr
theorem made_row (w : World) (xs ys : List Int) (hm : xs.length ≤ 1048576) {Z : Array Value} (hZ : Z = madeCells (Value.int .i64 0).cells (xs.length * 1)) :
    (w.alloc (.cells Z 3)).ownsRow w.heap.size 3 1 (.slice (some ⟨w.heap.size, 0, none⟩) xs.length xs.length) xs.length (ints (placed xs ys xs.length 0)) := by
  have hs : Z.size = xs.length * 1 := by rw [hZ]; exact size_madeCells _ _
  have h1 : (w.alloc (.cells Z 3)).ownsRow w.heap.size 3 1 (.slice (some ⟨w.heap.size, 0, none⟩) xs.length xs.length) xs.length Z.toList :=
    ⟨by simpa using hs, .inr ⟨w.heap.size, xs.length, Z, rfl, Nat.le_refl _, heap_alloc_new w _, Nat.le_refl _, by unfold maxLen; omega, hs, by rw [List.take_of_length_le]; simp [hs]⟩⟩
  rw [hZ] at h1
  rw [hZ]
  exact placed_start h1
theorem nmid_0 {w2 : World} {E : Int} {xs ys : List Int} {Z : Array Value} (hZ : Z = madeCells (Value.int .i64 0).cells (xs.length * 1)) (hm : xs.length ≤ 4) :
    NMid w2 E xs ys w2.heap.size (w2.heap.size + 1) 0 ((w2.alloc (.cells Z 3)).alloc (.cells #[.int .i64 E, .slice (some ⟨w2.heap.size, 0, none⟩) xs.length xs.length] 25)).drew := by
  have b := Box.new (w2.alloc (.cells Z 3)) (.int .i64 E) (.slice (some ⟨w2.heap.size, 0, none⟩) xs.length xs.length) 25
  rw [hsz] at b
  exact ⟨b.drew, ((made_row w2 xs ys (by omega) hZ).alloc _).drew, (((Below.refl _ _).alloc (Nat.le_refl _) _).alloc (by rw [hsz]; omega) _).drew⟩
theorem nmid_1 {w2 : World} {E : Int} {xs ys : List Int} {Z : Array Value} (hZ : Z = madeCells (Value.int .i64 0).cells (xs.length * 1)) (hm : xs.length ≤ 4) :
    NMid w2 E xs ys (w2.heap.size + 1) w2.heap.size 0 ((w2.alloc (.cells #[.int .i64 E, .slice (some ⟨w2.heap.size + 1, 0, none⟩) xs.length xs.length] 25)).alloc (.cells Z 3)).drew := by
  have b := (Box.new w2 (.int .i64 E) (.slice (some ⟨w2.heap.size + 1, 0, none⟩) xs.length xs.length) 25).alloc (.cells Z 3)
  have r := made_row (w2.alloc (.cells #[.int .i64 E, .slice (some ⟨w2.heap.size + 1, 0, none⟩) xs.length xs.length] 25)) xs ys (by omega) hZ
  rw [hsz] at r
  exact ⟨b.drew, r.drew, (((Below.refl _ _).alloc (Nat.le_refl _) _).alloc (by rw [hsz]; omega) _).drew⟩

set_option maxRecDepth 10000 in
set_option maxHeartbeats 400000 in
theorem implNamed_no1 (E : Int) (A : Option Addr) (c : Nat) (xs : List Int) (D : Option Addr) (d : Nat) (ys : List Int) (w : World) (lo hi : Nat) (h : Ints w lo hi A xs) (hh : hi ≤ w.heap.size) (hl : xs.length ≤ 1152921504606846976)
    (lo' hi' : Nat) (h' : Ints w lo' hi' D ys) (hh' : hi' ≤ w.heap.size) (_hl' : ys.length ≤ 1152921504606846976) (hok : caseOkB E xs = false) :
    Calls Try.prog 16 #[.agg #[.int .i64 E, .slice A xs.length c], .slice D ys.length d] w (RetCaseB w 0 [] false) := by
  have HO := Lib.hid hok
  clear hok
  have k0 := (h.alloc hh (.cells #[.int .i64 E, .slice A xs.length c] 25)).alloc (by simp; omega) (.cells #[.int .i64 0, .slice none 0 0] 25)
  have q0 := (h'.alloc hh' (.cells #[.int .i64 E, .slice A xs.length c] 25)).alloc (by simp; omega) (.cells #[.int .i64 0, .slice none 0 0] 25)
  obtain ⟨a0, r0, f0, B0, hz0⟩ := boxes2 w (.int .i64 E) (.slice A xs.length c) (.int .i64 0) (.slice none 0 0) 25 25
  have HZ := Lib.hid hz0
  clear hz0
  go_enter Try.func16, Try.ntmps16
  go_wp2_with fail
  refine (implCaseOk_no E A c xs _ _ _ k0 (by simp; omega) hl HO.out).mono ?_
  rintro e w1 ⟨rfl, hb1⟩
  rw [HZ.out] at hb1
  obtain ⟨a1, a1'⟩ := keep2 hb1 a0 (by omega)
  obtain ⟨r1, r1'⟩ := keep2 hb1 r0 (by omega)
  obtain ⟨f1, f1'⟩ := keep2f hb1 f0 (by omega)
  have k1 := k0.below hb1 (by omega)
  have q1 := q0.below hb1 (by omega)
  have hz1 : w.heap.size + 2 ≤ w1.heap.size := by rw [← HZ.out]; exact hb1.size
  have B1 := B0.trans (hb1.mono (by omega))
  clear hb1 a0 r0 f0 k0 q0 h h'
  go_wp2
  refine bodyPost_ret (v := .tuple #[.agg #[.int .i64 0, .slice none 0 0], .bool false]) (by simp [results, Try.results16, go_sem, r1, r1']) rfl ?_
  exact ⟨none, 0, rfl, Own.nil, (B1.setCell (by simp) _).setCell (by simp) _⟩

set_option maxRecDepth 10000 in
set_option maxHeartbeats 400000 in
theorem implNamed_no2 (E : Int) (A : Option Addr) (c : Nat) (xs : List Int) (D : Option Addr) (d : Nat) (ys : List Int) (w : World) (lo hi : Nat) (h : Ints w lo hi A xs) (hh : hi ≤ w.heap.size) (hl : xs.length ≤ 1152921504606846976)
    (lo' hi' : Nat) (h' : Ints w lo' hi' D ys) (hh' : hi' ≤ w.heap.size) (hl' : ys.length ≤ 1152921504606846976) (hok : caseOkB E xs = true) (hor : orderB xs.length ys = false) :
    Calls Try.prog 16 #[.agg #[.int .i64 E, .slice A xs.length c], .slice D ys.length d] w (RetCaseB w 0 [] false) := by
  have hx4 := (caseOk_bd hok).2.1
  have HO := Lib.hid hok
  have HOR := Lib.hid hor
  clear hok hor
  have k0 := (h.alloc hh (.cells #[.int .i64 E, .slice A xs.length c] 25)).alloc (by simp; omega) (.cells #[.int .i64 0, .slice none 0 0] 25)
  have q0 := (h'.alloc hh' (.cells #[.int .i64 E, .slice A xs.length c] 25)).alloc (by simp; omega) (.cells #[.int .i64 0, .slice none 0 0] 25)
  obtain ⟨a0, r0, f0, B0, hz0⟩ := boxes2 w (.int .i64 E) (.slice A xs.length c) (.int .i64 0) (.slice none 0 0) 25 25
  have HZ := Lib.hid hz0
  clear hz0
  go_enter Try.func16, Try.ntmps16
  go_wp2_with fail
  refine (implCaseOk_yes E A c xs _ _ _ k0 (by simp; omega) hl HO.out).mono ?_
  rintro e w1 ⟨rfl, hb1⟩
  rw [HZ.out] at hb1
  obtain ⟨a1, a1'⟩ := keep2 hb1 a0 (by omega)
  obtain ⟨r1, r1'⟩ := keep2 hb1 r0 (by omega)
  obtain ⟨f1, f1'⟩ := keep2f hb1 f0 (by omega)
  have k1 := k0.below hb1 (by omega)
  have q1 := q0.below hb1 (by omega)
  have hz1 : w.heap.size + 2 ≤ w1.heap.size := by rw [← HZ.out]; exact hb1.size
  have B1 := B0.trans (hb1.mono (by omega))
  clear hb1 a0 r0 f0 k0 q0 h h'
  go_wp2_with fail
  refine (isOrder_any D d ys xs.length _ _ _ q1 (by omega) hx4 hl').mono ?_
  rintro e w2 ⟨he2, hb2⟩
  rw [HOR.out] at he2
  subst he2
  obtain ⟨a2, a2'⟩ := keep2 hb2 ⟨a1, a1'⟩ (by omega)
  obtain ⟨r2, r2'⟩ := keep2 hb2 ⟨r1, r1'⟩ (by omega)
  obtain ⟨f2, f2'⟩ := keep2f hb2 ⟨f1, f1'⟩ (by omega)
  have k2 := k1.below hb2 (by omega)
  have q2 := q1.below hb2 (by omega)
  have hz2 : w.heap.size + 2 ≤ w2.heap.size := Nat.le_trans hz1 hb2.size
  have B2 := B1.trans (hb2.mono (by omega))
  clear hb2 q1 k1 B1
  go_wp2
  refine bodyPost_ret (v := .tuple #[.agg #[.int .i64 0, .slice none 0 0], .bool false]) (by simp [results, Try.results16, go_sem, r2, r2']) rfl ?_
  exact ⟨none, 0, rfl, Own.nil, (B2.setCell (by simp) _).setCell (by simp) _⟩

set_option maxRecDepth 10000 in
set_option maxHeartbeats 2000000 in
theorem implNamed_yes (E : Int) (A : Option Addr) (c : Nat) (xs : List Int) (D : Option Addr) (d : Nat) (ys : List Int) (w : World) (lo hi : Nat) (h : Ints w lo hi A xs) (hh : hi ≤ w.heap.size) (hl : xs.length ≤ 1152921504606846976)
    (lo' hi' : Nat) (h' : Ints w lo' hi' D ys) (hh' : hi' ≤ w.heap.size) (hl' : ys.length ≤ 1152921504606846976) (hok : caseOkB E xs = true) (hor : orderB xs.length ys = true) :
    Calls Try.prog 16 #[.agg #[.int .i64 E, .slice A xs.length c], .slice D ys.length d] w (RetCaseB w E (placed xs ys xs.length ys.length) true) := by
  obtain ⟨i0, hi0, hq0, hq1, hq2⟩ := info_parts info_int
  have hx4 := (caseOk_bd hok).2.1
  have hx0 := (caseOk_bd hok).1
  have HO := Lib.hid hok
  have HOR := Lib.hid hor
  have hord := order_iff hor
  have HN := Lib.hid hord.1
  have HT := Lib.hid hord.2
  have hy4 : ys.length ≤ 4 := by rw [hord.1]; exact hx4
  clear hok hor hord
  have k0 := (h.alloc hh (.cells #[.int .i64 E, .slice A xs.length c] 25)).alloc (by simp; omega) (.cells #[.int .i64 0, .slice none 0 0] 25)
  have q0 := (h'.alloc hh' (.cells #[.int .i64 E, .slice A xs.length c] 25)).alloc (by simp; omega) (.cells #[.int .i64 0, .slice none 0 0] 25)
  obtain ⟨a0, r0, f0, B0, hz0⟩ := boxes2 w (.int .i64 E) (.slice A xs.length c) (.int .i64 0) (.slice none 0 0) 25 25
  have HZ := Lib.hid hz0
  clear hz0
  go_enter Try.func16, Try.ntmps16
  go_wp2_with fail
  refine (implCaseOk_yes E A c xs _ _ _ k0 (by simp; omega) hl HO.out).mono ?_
  rintro e w1 ⟨rfl, hb1⟩
  rw [HZ.out] at hb1
  obtain ⟨a1, a1'⟩ := keep2 hb1 a0 (by omega)
  obtain ⟨r1, r1'⟩ := keep2 hb1 r0 (by omega)
  obtain ⟨f1, f1'⟩ := keep2f hb1 f0 (by omega)
  have k1 := k0.below hb1 (by omega)
  have q1 := q0.below hb1 (by omega)
  have hz1 : w.heap.size + 2 ≤ w1.heap.size := by rw [← HZ.out]; exact hb1.size
  have B1 := B0.trans (hb1.mono (by omega))
  clear hb1 a0 r0 f0 k0 q0 h h'
  go_wp2_with fail
  refine (isOrder_any D d ys xs.length _ _ _ q1 (by omega) hx4 hl').mono ?_
  rintro e w2 ⟨he2, hb2⟩
  rw [HOR.out] at he2
  subst he2
  obtain ⟨a2, a2'⟩ := keep2 hb2 ⟨a1, a1'⟩ (by omega)
  obtain ⟨r2, r2'⟩ := keep2 hb2 ⟨r1, r1'⟩ (by omega)
  obtain ⟨f2, f2'⟩ := keep2f hb2 ⟨f1, f1'⟩ (by omega)
  have k2 := k1.below hb2 (by omega)
  have q2 := q1.below hb2 (by omega)
  have hz2 : w.heap.size + 2 ≤ w2.heap.size := Nat.le_trans hz1 hb2.size
  have B2 := B1.trans (hb2.mono (by omega))
  clear hb2 q1 k1 B1
  go_wp2_with (at_make; refine wpList_make_full _ rfl _ _ _ rfl w2.heap.size 3 i0 _ 1 Try.underlying23 hi0 hq0 hq1 .i64 .i64 xs.length xs.length xs.length rfl rfl rfl rfl (by rw [hq2]; omega) (by unfold maxLen; omega) (Nat.le_refl _) ?_; intro wm hownm hgrowm; have bm : Below w2.heap.size w2 wm := (Below.refl _ _).grown hgrowm (Nat.le_refl _) (by intro k hk; cases hk); have hst := placed_start (xs := xs) (ys := ys) hownm; clear hownm hgrowm; obtain ⟨am, am'⟩ := keep2 bm ⟨a2, a2'⟩ (by omega); have zm := bm.size)
  go_loopw [27] (fun i wr => ∃ k : Nat, k ≤ ys.length ∧ i = .int .i64 k ∧ wr.ownsRow w2.heap.size 3 1 (.slice (some ⟨w2.heap.size, 0, none⟩) xs.length xs.length) xs.length (ints (placed xs ys xs.length k)) ∧ Below w2.heap.size w2 wr) (fun i _ => ys.length - (intOf i).toNat)
  case atStart => exact ⟨0, Nat.zero_le _, rfl, hst, bm⟩
  case round =>
    obtain ⟨k, hk, rfl, hown, hbel⟩ := hrel
    clear hst bm
    obtain ⟨ar, ar'⟩ := keep2 hbel ⟨a2, a2'⟩ (by omega)
    have zr := hbel.size
    by_cases hlt : k < ys.length
    · have hltx : k < xs.length := by have := HN.out; omega
      obtain ⟨b, o, rfl, _, hbh, hc⟩ := (k2.below hbel (by omega)).at_ hltx
      obtain ⟨b', o', rfl, _, hbh', hc'⟩ := (q2.below hbel (by omega)).at_ hlt
      have hoa := HT.out k hlt
      obtain ⟨y, hy⟩ : ∃ y : Nat, ys.getD k 0 = (y : Int) := ⟨(ys.getD k 0).toNat, by have := hoa.1; omega⟩
      have hyn : y < xs.length := by have := hoa.2.1; omega
      have hyi : (y : Int) < (xs.length : Int) := by omega
      rw [← getD_of_lt ys k hlt, hy] at hc'
      obtain ⟨u, hd, hf⟩ := placed_cell hown hyn
      have H := Lib.hid (And.intro (placed_more hown hy (xs[k]) (getD_of_lt xs k hltx)) (hbel.setCell (p := ⟨w2.heap.size, y, none⟩) (Nat.le_refl _) (.int .i64 (xs[k]))))
      clear hown hbel hy hoa
      go_wp2
      go_roundw
      case rel => exact ⟨k + 1, by omega, by go_num, H.out.1, H.out.2⟩
      case measure => simp [intOf]; omega
    · obtain rfl : k = ys.length := by omega
      obtain ⟨rr, rr'⟩ := keep2 hbel ⟨r2, r2'⟩ (by omega)
      obtain ⟨fr, fr'⟩ := keep2f hbel ⟨f2, f2'⟩ (by omega)
      have H := Lib.hid (And.intro (placed_own hown) (B2.trans (hbel.mono (by omega))))
      clear hown hbel
      go_wp2
      refine bodyPost_ret (v := .tuple #[.agg #[.int .i64 E, .slice (some ⟨w2.heap.size, 0, none⟩) xs.length xs.length], .bool true]) (by simp [results, Try.results16, go_sem, rr, rr']) rfl ?_
      refine ⟨some ⟨w2.heap.size, 0, none⟩, xs.length, by rw [placed_length], ?_, (H.out.2.setCell (by simp) _).setCell (by simp) _⟩
      exact ((H.out.1.set_out (.inl (by show w.heap.size + 1 < _; omega)) _).set_out (.inl (by show w.heap.size + 1 < _; omega)) _).more (by omega) (by simp [World.setCell])

set_option maxRecDepth 10000 in
set_option maxHeartbeats 400000 in
theorem specNamed_no1 (E : Int) (A : Option Addr) (c : Nat) (xs : List Int) (D : Option Addr) (d : Nat) (ys : List Int) (w : World) (lo hi : Nat) (h : Ints w lo hi A xs) (hh : hi ≤ w.heap.size) (hl : xs.length ≤ 1152921504606846976)
    (lo' hi' : Nat) (h' : Ints w lo' hi' D ys) (hh' : hi' ≤ w.heap.size) (_hl' : ys.length ≤ 1152921504606846976) (hok : caseOkB E xs = false) :
    Calls Try.prog 17 #[.agg #[.int .i64 E, .slice A xs.length c], .slice D ys.length d] w (RetCaseB w 0 [] false) := by
  have HO := Lib.hid hok
  clear hok
  have k0 := (h.alloc hh (.cells #[.int .i64 E, .slice A xs.length c] 25)).alloc (by simp; omega) (.cells #[.int .i64 0, .slice none 0 0] 25)
  have q0 := (h'.alloc hh' (.cells #[.int .i64 E, .slice A xs.length c] 25)).alloc (by simp; omega) (.cells #[.int .i64 0, .slice none 0 0] 25)
  obtain ⟨a0, r0, f0, B0, hz0⟩ := boxes2 w (.int .i64 E) (.slice A xs.length c) (.int .i64 0) (.slice none 0 0) 25 25
  have HZ := Lib.hid hz0
  clear hz0
  go_enter Try.func17, Try.ntmps17
  go_wp2_with fail
  refine (specCaseOk_no E A c xs _ _ _ k0 (by simp; omega) hl HO.out).mono ?_
  rintro e w1 ⟨rfl, hb1⟩
  rw [HZ.out] at hb1
  obtain ⟨a1, a1'⟩ := keep2 hb1 a0 (by omega)
  obtain ⟨r1, r1'⟩ := keep2 hb1 r0 (by omega)
  obtain ⟨f1, f1'⟩ := keep2f hb1 f0 (by omega)
  have k1 := k0.below hb1 (by omega)
  have q1 := q0.below hb1 (by omega)
  have hz1 : w.heap.size + 2 ≤ w1.heap.size := by rw [← HZ.out]; exact hb1.size
  have B1 := B0.trans (hb1.mono (by omega))
  clear hb1 a0 r0 f0 k0 q0 h h'
  go_wp2
  refine bodyPost_ret (v := .tuple #[.agg #[.int .i64 0, .slice none 0 0], .bool false]) (by simp [results, Try.results17, go_sem, r1, r1']) rfl ?_
  exact ⟨none, 0, rfl, Own.nil, (B1.setCell (by simp) _).setCell (by simp) _⟩

set_option maxRecDepth 10000 in
set_option maxHeartbeats 400000 in
theorem specNamed_no2 (E : Int) (A : Option Addr) (c : Nat) (xs : List Int) (D : Option Addr) (d : Nat) (ys : List Int) (w : World) (lo hi : Nat) (h : Ints w lo hi A xs) (hh : hi ≤ w.heap.size) (hl : xs.length ≤ 1152921504606846976)
    (lo' hi' : Nat) (h' : Ints w lo' hi' D ys) (hh' : hi' ≤ w.heap.size) (hl' : ys.length ≤ 1152921504606846976) (hok : caseOkB E xs = true) (hor : orderB xs.length ys = false) :
    Calls Try.prog 17 #[.agg #[.int .i64 E, .slice A xs.length c], .slice D ys.length d] w (RetCaseB w 0 [] false) := by
  have hx4 := (caseOk_bd hok).2.1
  have HO := Lib.hid hok
  have HOR := Lib.hid hor
  clear hok hor
  have k0 := (h.alloc hh (.cells #[.int .i64 E, .slice A xs.length c] 25)).alloc (by simp; omega) (.cells #[.int .i64 0, .slice none 0 0] 25)
  have q0 := (h'.alloc hh' (.cells #[.int .i64 E, .slice A xs.length c] 25)).alloc (by simp; omega) (.cells #[.int .i64 0, .slice none 0 0] 25)
  obtain ⟨a0, r0, f0, B0, hz0⟩ := boxes2 w (.int .i64 E) (.slice A xs.length c) (.int .i64 0) (.slice none 0 0) 25 25
  have HZ := Lib.hid hz0
  clear hz0
  go_enter Try.func17, Try.ntmps17
  go_wp2_with fail
  refine (specCaseOk_yes E A c xs _ _ _ k0 (by simp; omega) hl HO.out).mono ?_
  rintro e w1 ⟨rfl, hb1⟩
  rw [HZ.out] at hb1
  obtain ⟨a1, a1'⟩ := keep2 hb1 a0 (by omega)
  obtain ⟨r1, r1'⟩ := keep2 hb1 r0 (by omega)
  obtain ⟨f1, f1'⟩ := keep2f hb1 f0 (by omega)
  have k1 := k0.below hb1 (by omega)
  have q1 := q0.below hb1 (by omega)
  have hz1 : w.heap.size + 2 ≤ w1.heap.size := by rw [← HZ.out]; exact hb1.size
  have B1 := B0.trans (hb1.mono (by omega))
  clear hb1 a0 r0 f0 k0 q0 h h'
  go_wp2_with fail
  refine (l1Order_any D d ys xs.length _ _ _ q1 hx4 hl').mono ?_
  rintro e w2 ⟨he2, rfl⟩
  rw [HOR.out] at he2
  subst he2
  obtain ⟨w2, rfl⟩ : ∃ x, x = w1 := ⟨_, rfl⟩
  have a2 := a1
  have a2' := a1'
  have r2 := r1
  have r2' := r1'
  have f2 := f1
  have f2' := f1'
  have k2 := k1
  have q2 := q1
  have hz2 := hz1
  have B2 := B1
  clear a1 a1' r1 r1' f1 f1' k1 q1 hz1 B1
  go_wp2
  refine bodyPost_ret (v := .tuple #[.agg #[.int .i64 0, .slice none 0 0], .bool false]) (by simp [results, Try.results17, go_sem, r2, r2']) rfl ?_
  exact ⟨none, 0, rfl, Own.nil, (B2.setCell (by simp) _).setCell (by simp) _⟩

set_option maxRecDepth 10000 in
set_option maxHeartbeats 2000000 in
theorem specNamed_yes (E : Int) (A : Option Addr) (c : Nat) (xs : List Int) (D : Option Addr) (d : Nat) (ys : List Int) (w : World) (lo hi : Nat) (h : Ints w lo hi A xs) (hh : hi ≤ w.heap.size) (hl : xs.length ≤ 1152921504606846976)
    (lo' hi' : Nat) (h' : Ints w lo' hi' D ys) (hh' : hi' ≤ w.heap.size) (hl' : ys.length ≤ 1152921504606846976) (hok : caseOkB E xs = true) (hor : orderB xs.length ys = true) :
    Calls Try.prog 17 #[.agg #[.int .i64 E, .slice A xs.length c], .slice D ys.length d] w (RetCaseB w E (placed xs ys xs.length ys.length) true) := by
  obtain ⟨i0, hi0, hq0, hq1, hq2⟩ := info_parts info_int
  have hx4 := (caseOk_bd hok).2.1
  have hx0 := (caseOk_bd hok).1
  have HO := Lib.hid hok
  have HOR := Lib.hid hor
  have hord := order_iff hor
  have HN := Lib.hid hord.1
  have HT := Lib.hid hord.2
  have hy4 : ys.length ≤ 4 := by rw [hord.1]; exact hx4
  clear hok hor hord
  have k0 := (h.alloc hh (.cells #[.int .i64 E, .slice A xs.length c] 25)).alloc (by simp; omega) (.cells #[.int .i64 0, .slice none 0 0] 25)
  have q0 := (h'.alloc hh' (.cells #[.int .i64 E, .slice A xs.length c] 25)).alloc (by simp; omega) (.cells #[.int .i64 0, .slice none 0 0] 25)
  obtain ⟨a0, r0, f0, B0, hz0⟩ := boxes2 w (.int .i64 E) (.slice A xs.length c) (.int .i64 0) (.slice none 0 0) 25 25
  have HZ := Lib.hid hz0
  clear hz0
  go_enter Try.func17, Try.ntmps17
  go_wp2_with fail
  refine (specCaseOk_yes E A c xs _ _ _ k0 (by simp; omega) hl HO.out).mono ?_
  rintro e w1 ⟨rfl, hb1⟩
  rw [HZ.out] at hb1
  obtain ⟨a1, a1'⟩ := keep2 hb1 a0 (by omega)
  obtain ⟨r1, r1'⟩ := keep2 hb1 r0 (by omega)
  obtain ⟨f1, f1'⟩ := keep2f hb1 f0 (by omega)
  have k1 := k0.below hb1 (by omega)
  have q1 := q0.below hb1 (by omega)
  have hz1 : w.heap.size + 2 ≤ w1.heap.size := by rw [← HZ.out]; exact hb1.size
  have B1 := B0.trans (hb1.mono (by omega))
  clear hb1 a0 r0 f0 k0 q0 h h'
  go_wp2_with fail
  refine (l1Order_any D d ys xs.length _ _ _ q1 hx4 hl').mono ?_
  rintro e w2 ⟨he2, rfl⟩
  rw [HOR.out] at he2
  subst he2
  obtain ⟨w2, rfl⟩ : ∃ x, x = w1 := ⟨_, rfl⟩
  have a2 := a1
  have a2' := a1'
  have r2 := r1
  have r2' := r1'
  have f2 := f1
  have f2' := f1'
  have k2 := k1
  have q2 := q1
  have hz2 := hz1
  have B2 := B1
  clear a1 a1' r1 r1' f1 f1' k1 q1 hz1 B1
  obtain ⟨Z, hZ⟩ : ∃ Z, Z = madeCells (Value.int .i64 0).cells (xs.length * 1) := ⟨_, rfl⟩
  have hmk : ∀ W : World, (Instr.makeSlice 23 (.int .i64 (xs.length : Int)) (.int .i64 (xs.length : Int))).run Try.prog W = .ok (.slice (some ⟨W.heap.size, 0, none⟩) xs.length xs.length) (W.alloc (.cells Z 3)) := fun W => by
    have e := run_make_rowN 23 3 i0 (.int .i64 0) Try.underlying23 hi0 hq0 .i64 .i64 xs.length xs.length (Nat.le_refl _) (by rw [hq2]; omega) (by omega) W
    rw [hq1] at e
    rw [hZ]; exact e
  have HZ2 := Lib.hid hZ
  clear hZ
  go_wp2_with fail
  go_region_held3 (fun w' => w'.cell? ⟨w.heap.size, 0, none⟩ = some (.int .i64 E) ∧ w'.cell? ⟨w.heap.size, 1, none⟩ = some (.slice A xs.length c)) (first | go_keep) (fail)
  · have mid0 : NMid w2 E xs ys w2.heap.size (w2.heap.size + 1) 0 (((w2.alloc (.cells Z 3)).alloc (.cells #[.int .i64 E, .slice (some ⟨w2.heap.size, 0, none⟩) xs.length xs.length] 25)).drew) := by
      exact nmid_0 HZ2.out hx4
    go_wp2
    go_loopw [7] (fun i wr => ∃ k : Nat, k ≤ ys.length ∧ i = .int .i64 k ∧ NMid w2 E xs ys w2.heap.size (w2.heap.size + 1) k wr) (fun i _ => ys.length - (intOf i).toNat)
    case atStart => exact ⟨0, Nat.zero_le _, rfl, mid0⟩
    case round =>
      obtain ⟨k, hk, rfl, bxO, hown, hbel⟩ := hrel
      clear mid0
      obtain ⟨ar, ar'⟩ := keep2 hbel ⟨a2, a2'⟩ (by omega)
      have zr := hbel.size
      have g0 := bxO.c0
      have g1 := bxO.c1
      have g2 := bxO.lt
      by_cases hlt : k < ys.length
      · have hltx : k < xs.length := by have := HN.out; omega
        obtain ⟨b, o, rfl, _, hbh, hc⟩ := (k2.below hbel (by omega)).at_ hltx
        obtain ⟨b', o', rfl, _, hbh', hc'⟩ := (q2.below hbel (by omega)).at_ hlt
        have hoa := HT.out k hlt
        obtain ⟨y, hy⟩ : ∃ y : Nat, ys.getD k 0 = (y : Int) := ⟨(ys.getD k 0).toNat, by have := hoa.1; omega⟩
        have hyn : y < xs.length := by have := hoa.2.1; omega
        have hyi : (y : Int) < (xs.length : Int) := by omega
        have hy0 : (0 : Int) ≤ (y : Int) := by omega
        have hk0 : (0 : Int) ≤ (k : Int) := by omega
        have hk1 : (k : Int) < (xs.length : Int) := by omega
        have hk2 : (k : Int) < (ys.length : Int) := by omega
        rw [← getD_of_lt ys k hlt, hy] at hc'
        obtain ⟨u, hd, hf⟩ := placed_cell hown hyn
        have H : Hid (NMid w2 E xs ys w2.heap.size (w2.heap.size + 1) (k + 1) (wr.setCell ⟨w2.heap.size, y, none⟩ (.int .i64 (xs[k]))).drew) := ⟨(bxO.far (p := ⟨w2.heap.size, y, none⟩) (by show (w2.heap.size + 1) ≠ w2.heap.size; omega) _).drew, (placed_more hown hy (xs[k]) (getD_of_lt xs k hltx)).drew, (hbel.setCell (p := ⟨w2.heap.size, y, none⟩) (by show w2.heap.size ≤ w2.heap.size; omega) _).drew⟩
        have hbw : b < wr.heap.size := by omega
        have hbw' : b' < wr.heap.size := by omega
        have ks := And.intro ((World.cell?_setCell_other wr ⟨w2.heap.size, y, none⟩ ⟨(w2.heap.size + 1), 1, none⟩ (.int .i64 (xs[k])) (by intro e'; injection e' with e1 _ _; omega)).trans g1) (And.intro ((World.cell?_setCell_other wr ⟨w2.heap.size, y, none⟩ ⟨w.heap.size, 1, none⟩ (.int .i64 (xs[k])) (by intro e'; injection e' with e1 _ _; omega)).trans ar') (And.intro ((World.cell?_setCell_other wr ⟨w2.heap.size, y, none⟩ ⟨b, o + k, none⟩ (.int .i64 (xs[k])) (by intro e'; injection e' with e1 _ _; omega)).trans hc) ((World.cell?_setCell_other wr ⟨w2.heap.size, y, none⟩ ⟨b', o' + k, none⟩ (.int .i64 (xs[k])) (by intro e'; injection e' with e1 _ _; omega)).trans hc')))
        have KS := Lib.hid ks
        clear ks
        clear hown hbel hy hoa bxO
        go_wp2_with fail
        go_region_held3 (fun w' => w'.cell? ⟨(w2.heap.size + 1), 1, none⟩ = some (.slice (some ⟨w2.heap.size, 0, none⟩) xs.length xs.length) ∧ w'.cell? ⟨w.heap.size, 1, none⟩ = some (.slice (some ⟨b, o, none⟩) xs.length c) ∧ w'.cell? ⟨b, o + k, none⟩ = some (.int .i64 xs[k]) ∧ w'.cell? ⟨b', o' + k, none⟩ = some (.int .i64 (y : Int))) (first | exact KS.out | go_keep) (fail)
        go_wp2
        go_roundw
        case rel => exact ⟨k + 1, by omega, by go_num, H.out⟩
        case measure => simp [intOf]; omega
      · obtain rfl : k = ys.length := by omega
        obtain ⟨rr, rr'⟩ := keep2 hbel ⟨r2, r2'⟩ (by omega)
        obtain ⟨fr, fr'⟩ := keep2f hbel ⟨f2, f2'⟩ (by omega)
        have H := Lib.hid (And.intro ((placed_own hown).more (by omega : w.heap.size + 2 ≤ w2.heap.size) (Nat.le_refl _)) (B2.trans (hbel.mono (by omega))))
        clear hown hbel bxO
        go_wp2
        refine bodyPost_ret (v := .tuple #[.agg #[.int .i64 E, .slice (some ⟨w2.heap.size, 0, none⟩) xs.length xs.length], .bool true]) (by simp [results, Try.results17, go_sem, rr, rr']) rfl ?_
        exact ⟨some ⟨w2.heap.size, 0, none⟩, xs.length, by rw [placed_length], ((H.out.1.set_out (.inl (by simp)) _).set_out (.inl (by simp)) _).more (by omega) (by simp [World.setCell]), (H.out.2.setCell (by simp) _).setCell (by simp) _⟩
  · have mid0 : NMid w2 E xs ys (w2.heap.size + 1) w2.heap.size 0 (((w2.alloc (.cells #[.int .i64 E, .slice (some ⟨w2.heap.size + 1, 0, none⟩) xs.length xs.length] 25)).alloc (.cells Z 3)).drew) := by
      exact nmid_1 HZ2.out hx4
    go_wp2
    go_loopw [7] (fun i wr => ∃ k : Nat, k ≤ ys.length ∧ i = .int .i64 k ∧ NMid w2 E xs ys (w2.heap.size + 1) w2.heap.size k wr) (fun i _ => ys.length - (intOf i).toNat)
    case atStart => exact ⟨0, Nat.zero_le _, rfl, mid0⟩
    case round =>
      obtain ⟨k, hk, rfl, bxO, hown, hbel⟩ := hrel
      clear mid0
      obtain ⟨ar, ar'⟩ := keep2 hbel ⟨a2, a2'⟩ (by omega)
      have zr := hbel.size
      have g0 := bxO.c0
      have g1 := bxO.c1
      have g2 := bxO.lt
      by_cases hlt : k < ys.length
      · have hltx : k < xs.length := by have := HN.out; omega
        obtain ⟨b, o, rfl, _, hbh, hc⟩ := (k2.below hbel (by omega)).at_ hltx
        obtain ⟨b', o', rfl, _, hbh', hc'⟩ := (q2.below hbel (by omega)).at_ hlt
        have hoa := HT.out k hlt
        obtain ⟨y, hy⟩ : ∃ y : Nat, ys.getD k 0 = (y : Int) := ⟨(ys.getD k 0).toNat, by have := hoa.1; omega⟩
        have hyn : y < xs.length := by have := hoa.2.1; omega
        have hyi : (y : Int) < (xs.length : Int) := by omega
        have hy0 : (0 : Int) ≤ (y : Int) := by omega
        have hk0 : (0 : Int) ≤ (k : Int) := by omega
        have hk1 : (k : Int) < (xs.length : Int) := by omega
        have hk2 : (k : Int) < (ys.length : Int) := by omega
        rw [← getD_of_lt ys k hlt, hy] at hc'
        obtain ⟨u, hd, hf⟩ := placed_cell hown hyn
        have H : Hid (NMid w2 E xs ys (w2.heap.size + 1) w2.heap.size (k + 1) (wr.setCell ⟨(w2.heap.size + 1), y, none⟩ (.int .i64 (xs[k]))).drew) := ⟨(bxO.far (p := ⟨(w2.heap.size + 1), y, none⟩) (by show w2.heap.size ≠ (w2.heap.size + 1); omega) _).drew, (placed_more hown hy (xs[k]) (getD_of_lt xs k hltx)).drew, (hbel.setCell (p := ⟨(w2.heap.size + 1), y, none⟩) (by show w2.heap.size ≤ (w2.heap.size + 1); omega) _).drew⟩
        have hbw : b < wr.heap.size := by omega
        have hbw' : b' < wr.heap.size := by omega
        have ks := And.intro ((World.cell?_setCell_other wr ⟨(w2.heap.size + 1), y, none⟩ ⟨w2.heap.size, 1, none⟩ (.int .i64 (xs[k])) (by intro e'; injection e' with e1 _ _; omega)).trans g1) (And.intro ((World.cell?_setCell_other wr ⟨(w2.heap.size + 1), y, none⟩ ⟨w.heap.size, 1, none⟩ (.int .i64 (xs[k])) (by intro e'; injection e' with e1 _ _; omega)).trans ar') (And.intro ((World.cell?_setCell_other wr ⟨(w2.heap.size + 1), y, none⟩ ⟨b, o + k, none⟩ (.int .i64 (xs[k])) (by intro e'; injection e' with e1 _ _; omega)).trans hc) ((World.cell?_setCell_other wr ⟨(w2.heap.size + 1), y, none⟩ ⟨b', o' + k, none⟩ (.int .i64 (xs[k])) (by intro e'; injection e' with e1 _ _; omega)).trans hc')))
        have KS := Lib.hid ks
        clear ks
        clear hown hbel hy hoa bxO
        go_wp2_with fail
        go_region_held3 (fun w' => w'.cell? ⟨w2.heap.size, 1, none⟩ = some (.slice (some ⟨(w2.heap.size + 1), 0, none⟩) xs.length xs.length) ∧ w'.cell? ⟨w.heap.size, 1, none⟩ = some (.slice (some ⟨b, o, none⟩) xs.length c) ∧ w'.cell? ⟨b, o + k, none⟩ = some (.int .i64 xs[k]) ∧ w'.cell? ⟨b', o' + k, none⟩ = some (.int .i64 (y : Int))) (first | exact KS.out | go_keep) (fail)
        go_wp2
        go_roundw
        case rel => exact ⟨k + 1, by omega, by go_num, H.out⟩
        case measure => simp [intOf]; omega
      · obtain rfl : k = ys.length := by omega
        obtain ⟨rr, rr'⟩ := keep2 hbel ⟨r2, r2'⟩ (by omega)
        obtain ⟨fr, fr'⟩ := keep2f hbel ⟨f2, f2'⟩ (by omega)
        have H := Lib.hid (And.intro ((placed_own hown).more (by omega : w.heap.size + 2 ≤ (w2.heap.size + 1)) (Nat.le_refl _)) (B2.trans (hbel.mono (by omega))))
        clear hown hbel bxO
        go_wp2
        refine bodyPost_ret (v := .tuple #[.agg #[.int .i64 E, .slice (some ⟨(w2.heap.size + 1), 0, none⟩) xs.length xs.length], .bool true]) (by simp [results, Try.results17, go_sem, rr, rr']) rfl ?_
        exact ⟨some ⟨(w2.heap.size + 1), 0, none⟩, xs.length, by rw [placed_length], ((H.out.1.set_out (.inl (by simp)) _).set_out (.inl (by simp)) _).more (by omega) (by simp [World.setCell]), (H.out.2.setCell (by simp) _).setCell (by simp) _⟩

theorem implNamedCase_any (E : Int) (A : Option Addr) (c : Nat) (xs : List Int) (D : Option Addr) (d : Nat) (ys : List Int) (w : World) (lo hi : Nat) (h : Ints w lo hi A xs) (hh : hi ≤ w.heap.size) (hl : xs.length ≤ 1152921504606846976)
    (lo' hi' : Nat) (h' : Ints w lo' hi' D ys) (hh' : hi' ≤ w.heap.size) (hl' : ys.length ≤ 1152921504606846976) :
    Calls Try.prog 16 #[.agg #[.int .i64 E, .slice A xs.length c], .slice D ys.length d] w (RetCaseB w (namedE E xs ys) (namedXs E xs ys) (namedB E xs ys)) := by
  by_cases hok : caseOkB E xs = true
  · by_cases hor : orderB xs.length ys = true
    · have e := implNamed_yes E A c xs D d ys w lo hi h hh hl lo' hi' h' hh' hl' hok hor
      have hb : namedB E xs ys = true := by simp [namedB, hok, hor]
      simpa [namedE, namedXs, hb] using e
    · have hor' : orderB xs.length ys = false := by simpa using hor
      have e := implNamed_no2 E A c xs D d ys w lo hi h hh hl lo' hi' h' hh' hl' hok hor'
      have hb : namedB E xs ys = false := by simp [namedB, hor']
      simpa [namedE, namedXs, hb] using e
  · have hok' : caseOkB E xs = false := by simpa using hok
    have e := implNamed_no1 E A c xs D d ys w lo hi h hh hl lo' hi' h' hh' hl' hok'
    have hb : namedB E xs ys = false := by simp [namedB, hok']
    simpa [namedE, namedXs, hb] using e

theorem specNamedCase_any (E : Int) (A : Option Addr) (c : Nat) (xs : List Int) (D : Option Addr) (d : Nat) (ys : List Int) (w : World) (lo hi : Nat) (h : Ints w lo hi A xs) (hh : hi ≤ w.heap.size) (hl : xs.length ≤ 1152921504606846976)
    (lo' hi' : Nat) (h' : Ints w lo' hi' D ys) (hh' : hi' ≤ w.heap.size) (hl' : ys.length ≤ 1152921504606846976) :
    Calls Try.prog 17 #[.agg #[.int .i64 E, .slice A xs.length c], .slice D ys.length d] w (RetCaseB w (namedE E xs ys) (namedXs E xs ys) (namedB E xs ys)) := by
  by_cases hok : caseOkB E xs = true
  · by_cases hor : orderB xs.length ys = true
    · have e := specNamed_yes E A c xs D d ys w lo hi h hh hl lo' hi' h' hh' hl' hok hor
      have hb : namedB E xs ys = true := by simp [namedB, hok, hor]
      simpa [namedE, namedXs, hb] using e
    · have hor' : orderB xs.length ys = false := by simpa using hor
      have e := specNamed_no2 E A c xs D d ys w lo hi h hh hl lo' hi' h' hh' hl' hok hor'
      have hb : namedB E xs ys = false := by simp [namedB, hor']
      simpa [namedE, namedXs, hb] using e
  · have hok' : caseOkB E xs = false := by simpa using hok
    have e := specNamed_no1 E A c xs D d ys w lo hi h hh hl lo' hi' h' hh' hl' hok'
    have hb : namedB E xs ys = false := by simp [namedB, hok']
    simpa [namedE, namedXs, hb] using e

end Go.Proofs.Ytpoafafoncgenaa
