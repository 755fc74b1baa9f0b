/-
  What the reader of a code draws: each pick is a number below the asked one, and only the reader's position is written.
-/
import Derived.Test.YtilhholjbjhaeaaSum
import Derived.BigQuiet
namespace Go.Proofs.Ytilhholjbjhaeaa
open Go.RowKit

/-- The slice at A reads as the bytes bs, in a block below hi. -/
def Bytes (w : World) (hi : Nat) (A : Option Addr) (bs : List Int) : Prop :=
  0 < bs.length → ∃ b o, A = some ⟨b, o, none⟩ ∧ b < hi ∧ (∀ j, j < bs.length → w.cell? ⟨b, o + j, none⟩ = some (.int .u8 (bs.getD j 0))) ∧ ∀ j, j < bs.length → 0 ≤ bs.getD j 0 ∧ bs.getD j 0 ≤ 255
theorem Bytes.at_ {w : World} {hi : Nat} {A : Option Addr} {bs : List Int} {k : Nat} (h : Bytes w hi A bs) (hk : k < bs.length) : ∃ b o, A = some ⟨b, o, none⟩ ∧ b < hi ∧ w.cell? ⟨b, o + k, none⟩ = some (.int .u8 (bs[k]'hk)) ∧ 0 ≤ bs[k] ∧ bs[k] ≤ 255 := by
  obtain ⟨b, o, e, h1, hc, hr⟩ := h (by omega)
  have hr' := hr k hk
  rw [getD_of_lt bs k hk] at hr'
  exact ⟨b, o, e, h1, by rw [hc k hk, getD_of_lt bs k hk], hr'.1, hr'.2⟩
theorem Bytes.below {w w' : World} {hi B : Nat} {A : Option Addr} {bs : List Int} (h : Bytes w hi A bs) (hb : Below B w w') (hB : hi ≤ B) : Bytes w' hi A bs := fun hn => by
  obtain ⟨b, o, e, h1, hc, hr⟩ := h hn
  exact ⟨b, o, e, h1, fun j hj => (hb.cell (by show b < _; omega)).trans (hc j hj), hr⟩
theorem Bytes.more {w : World} {hi hi' : Nat} {A : Option Addr} {bs : List Int} (h : Bytes w hi A bs) (hh : hi ≤ hi') : Bytes w hi' A bs := fun hn => by
  obtain ⟨b, o, e, h1, hc, hr⟩ := h hn
  exact ⟨b, o, e, by omega, hc, hr⟩
theorem Bytes.take {w : World} {hi : Nat} {A : Option Addr} {bs : List Int} (h : Bytes w hi A bs) (n : Nat) : Bytes w hi A (bs.take n) := fun hn => by
  have hl : (bs.take n).length ≤ bs.length := by rw [List.length_take]; omega
  obtain ⟨b, o, e, h1, hc, hr⟩ := h (by omega)
  have hg : ∀ j, j < (bs.take n).length → (bs.take n).getD j 0 = bs.getD j 0 := fun j hj => by
    rw [List.length_take] at hj
    have hj' : j < n := by omega
    simp [List.getD, hj']
  exact ⟨b, o, e, h1, fun j hj => by rw [hg j hj]; exact hc j (by omega), fun j hj => by rw [hg j hj]; exact hr j (by omega)⟩

/-- A reader in block R: its bytes lie below it; its position is q. -/
structure Rd (w : World) (R : Nat) (A : Option Addr) (c : Nat) (bs : List Int) (q : Nat) : Prop where
  s : w.cell? ⟨R, 0, none⟩ = some (.slice A bs.length c)
  p : w.cell? ⟨R, 1, none⟩ = some (.int .i64 q)
  f : w.frozen? ⟨R, 1, none⟩ = false
  b : Bytes w R A bs
  lt : R < w.heap.size

set_option maxRecDepth 10000 in
set_option maxHeartbeats 400000 in
theorem l20Open_any (A : Option Addr) (c : Nat) (bs : List Int) (w : World) (h : Bytes w w.heap.size A bs) (hl : bs.length ≤ 9223372036854775807) (hc : bs.length ≤ c) :
    Calls Try.prog 24 #[.slice A bs.length c] w fun e w' => e = .returned (.pointer (some ⟨w.heap.size, 0, none⟩)) ∧ Below w.heap.size w w' ∧ ∃ c' bs', bs'.length ≤ 2000 ∧ Rd w' w.heap.size A c' bs' 0 := by
  by_cases h2 : 2000 < bs.length
  · have ht : (bs.take 2000).length = 2000 := by rw [List.length_take]; omega
    go_enter Try.func24, Try.ntmps24
    go_wp2
    go_ret
    have hb := (Below.refl w.heap.size w).alloc (Nat.le_refl _) (.cells #[.slice A 2000 c, .int .i64 0] 59)
    exact ⟨rfl, hb, c, bs.take 2000, by omega, ⟨by rw [ht]; simp [go_sem], by simp [go_sem], by simp [go_sem], (h.take 2000).below hb (Nat.le_refl _), by simp⟩⟩
  · go_enter Try.func24, Try.ntmps24
    go_wp2
    go_ret
    have hb := (Below.refl w.heap.size w).alloc (Nat.le_refl _) (.cells #[.slice A bs.length c, .int .i64 0] 59)
    exact ⟨rfl, hb, c, bs, by omega, ⟨by simp [go_sem], by simp [go_sem], by simp [go_sem], h.below hb (Nat.le_refl _), by simp⟩⟩

theorem xor_i64 (a b : Nat) (ha : a < 4294967296) (hb : b < 4294967296) : bits .xor .i64 (a : Int) (b : Int) = ((a ^^^ b : Nat) : Int) := by
  have hx : a ^^^ b < 2 ^ 32 := Nat.xor_lt_two_pow (by omega) (by omega)
  have e : ∀ n : Nat, n < 4294967296 → (BitVec.ofInt 64 (n : Int)).toNat = n := fun n hn => by
    rw [BitVec.ofInt_natCast, BitVec.toNat_ofNat]; exact Nat.mod_eq_of_lt (by omega)
  show IntKind.i64.wrap ((BitVec.ofInt 64 (a : Int) ^^^ BitVec.ofInt 64 (b : Int)).toNat : Int) = _
  rw [BitVec.toNat_xor, e a ha, e b hb, IntKind.wrap_i64]
  omega
theorem draw_bd (x n : Int) (h0 : 0 ≤ x) (h1 : x ≤ 100000000) (hn : 1 ≤ n) : 0 ≤ (bits .xor .i64 x (x / 64)).tmod n ∧ (bits .xor .i64 x (x / 64)).tmod n < n := by
  obtain ⟨a, rfl⟩ := Int.eq_ofNat_of_zero_le h0
  have e : ((a : Int) / 64) = ((a / 64 : Nat) : Int) := by omega
  rw [e, xor_i64 a (a / 64) (by omega) (by omega)]
  exact ⟨Int.tmod_nonneg _ (by omega), Int.tmod_lt_of_pos _ (by omega)⟩

set_option maxRecDepth 10000 in
set_option maxHeartbeats 1000000 in
theorem pick_late (R : Nat) (A : Option Addr) (c : Nat) (bs : List Int) (q : Nat) (n : Int) (w : World) (h : Rd w R A c bs q) (hn : 1 ≤ n) (hn' : n ≤ 1000000) (hb : 0 < bs.length) (hl : bs.length ≤ 2000) (hq : q ≤ 1000000) (hk : ¬ q < bs.length) :
    Calls Try.prog 25 #[.pointer (some ⟨R, 0, none⟩), .int .i64 n] w fun e w' => ∃ v : Int, 0 ≤ v ∧ v < n ∧ e = .returned (.int .i64 v) ∧ ∃ m, w' = (w.setCell ⟨R, 1, none⟩ (.int .i64 ((q + 1 : Nat) : Int))).drewN m := by
  obtain ⟨hs, hp, hf, hB, hlt⟩ := h
  obtain ⟨i1, hi1⟩ : ∃ i, i = q % bs.length := ⟨_, rfl⟩
  obtain ⟨i2, hi2⟩ : ∃ i, i = (q * 7 + 3) % bs.length := ⟨_, rfl⟩
  obtain ⟨d, hd⟩ : ∃ d, d = q / bs.length := ⟨_, rfl⟩
  have l1 : i1 < bs.length := by rw [hi1]; exact Nat.mod_lt _ hb
  have l2 : i2 < bs.length := by rw [hi2]; exact Nat.mod_lt _ hb
  have ld : d ≤ 1000000 := by rw [hd]; exact Nat.le_trans (Nat.div_le_self _ _) hq
  have t1 : Int.tmod (q : Int) (bs.length : Int) = (i1 : Int) := by rw [hi1]; rfl
  have t2 : Int.tmod ((q : Int) * 7 + 3) (bs.length : Int) = (i2 : Int) := by rw [hi2]; rfl
  have t3 : Int.tdiv (q : Int) (bs.length : Int) = (d : Int) := by rw [hd]; rfl
  obtain ⟨b, o, rfl, hbR, hc1, hv1, hv1'⟩ := hB.at_ l1
  obtain ⟨b', o', e', _, hc2, hv2, hv2'⟩ := hB.at_ l2
  injection e' with e'
  injection e' with e1 e2 _
  subst e1
  subst e2
  generalize bs[i1] = v1 at hc1 hv1 hv1'
  generalize bs[i2] = v2 at hc2 hv2 hv2'
  clear hi1 hi2 hd
  have hne : ((bs.length : Int) == 0) = false := beq_eq_false_iff_ne.2 (by omega)
  have w0 : IntKind.i64.wrap v1 = v1 := IntWalk.i64_in _ (by omega)
  have w0' : IntKind.i64.wrap v2 = v2 := IntWalk.i64_in _ (by omega)
  have w1 : IntKind.i64.wrap (v1 * 131) = v1 * 131 := IntWalk.i64_in _ (by omega)
  have w2 : IntKind.i64.wrap ((q : Int) * 7) = (q : Int) * 7 := IntWalk.i64_in _ (by omega)
  have w3 : IntKind.i64.wrap ((q : Int) * 7 + 3) = (q : Int) * 7 + 3 := IntWalk.i64_in _ (by omega)
  have w4 : IntKind.i64.wrap (v2 * 1117) = v2 * 1117 := IntWalk.i64_in _ (by omega)
  have w5 : IntKind.i64.wrap (v1 * 131 + v2 * 1117) = v1 * 131 + v2 * 1117 := IntWalk.i64_in _ (by omega)
  have w6 : IntKind.i64.wrap ((q : Int) * 29) = (q : Int) * 29 := IntWalk.i64_in _ (by omega)
  have w7 : IntKind.i64.wrap (v1 * 131 + v2 * 1117 + (q : Int) * 29) = v1 * 131 + v2 * 1117 + (q : Int) * 29 := IntWalk.i64_in _ (by omega)
  have w8 : IntKind.i64.wrap ((d : Int) * 53) = (d : Int) * 53 := IntWalk.i64_in _ (by omega)
  have w9 : IntKind.i64.wrap (v1 * 131 + v2 * 1117 + (q : Int) * 29 + (d : Int) * 53) = v1 * 131 + v2 * 1117 + (q : Int) * 29 + (d : Int) * 53 := IntWalk.i64_in _ (by omega)
  have z1 : (0 : Int) ≤ (i1 : Int) := by omega
  have z2 : (i1 : Int) < (bs.length : Int) := by omega
  have z3 : (0 : Int) ≤ (i2 : Int) := by omega
  have z4 : (i2 : Int) < (bs.length : Int) := by omega
  have hbw : b < w.heap.size := by omega
  have hbn : ¬ (b = R) := by omega
  clear hB
  go_enter Try.func25, Try.ntmps25
  go_wp2
  go_quiet (fail)
  generalize hx : v1 * 131 + v2 * 1117 + (q : Int) * 29 + (d : Int) * 53 = x
  have hx0 : 0 ≤ x := by omega
  have hx1 : x ≤ 100000000 := by omega
  clear w0 w0' w1 w2 w3 w4 w5 w6 w7 w8 w9 t1 t2 t3 hc1 hc2 hx
  have hbd := Lib.hid (draw_bd x n hx0 hx1 hn)
  go_wp2
  go_ret
  exact ⟨_, hbd.out.1, hbd.out.2, rfl, _, rfl⟩

end Go.Proofs.Ytilhholjbjhaeaa
