/-
  What the reader of a code draws: each pick is a number below the asked one, and only the reader's position is written.
-/
import Derived.Test.YtpoafafoncgenabSum
import Derived.BigQuiet
namespace Go.Proofs.Ytpoafafoncgenab
open Go.RowKit

/-- The slice at A reads as the bytes bs, in a block below hi. -/
def Bytes (w : World) (hi : Nat) (A : Option Addr) (bs : List Int) : Prop :=
  0 < bs.length → ∃ b o, A = some ⟨b, o, none⟩ ∧ b < hi ∧ (∀ j, j < bs.length → w.cell? ⟨b, o + j, none⟩ = some (.int .u8 (bs.getD j 0))) ∧ ∀ j, j < bs.length → 0 ≤ bs.getD j 0 ∧ bs.getD j 0 ≤ 255
theorem Bytes.at_ {w : World} {hi : Nat} {A : Option Addr} {bs : List Int} {k : Nat} (h : Bytes w hi A bs) (hk : k < bs.length) : ∃ b o, A = some ⟨b, o, none⟩ ∧ b < hi ∧ w.cell? ⟨b, o + k, none⟩ = some (.int .u8 (bs[k]'hk)) ∧ 0 ≤ bs[k] ∧ bs[k] ≤ 255 := by
  obtain ⟨b, o, e, h1, hc, hr⟩ := h (by omega)
  have hr' := hr k hk
  rw [getD_of_lt bs k hk] at hr'
  exact ⟨b, o, e, h1, by rw [hc k hk, getD_of_lt bs k hk], hr'.1, hr'.2⟩
theorem Bytes.below {w w' : World} {hi B : Nat} {A : Option Addr} {bs : List Int} (h : Bytes w hi A bs) (hb : Below B w w') (hB : hi ≤ B) : Bytes w' hi A bs := fun hn => by
  obtain ⟨b, o, e, h1, hc, hr⟩ := h hn
  exact ⟨b, o, e, h1, fun j hj => (hb.cell (by show b < _; omega)).trans (hc j hj), hr⟩
theorem Bytes.more {w : World} {hi hi' : Nat} {A : Option Addr} {bs : List Int} (h : Bytes w hi A bs) (hh : hi ≤ hi') : Bytes w hi' A bs := fun hn => by
  obtain ⟨b, o, e, h1, hc, hr⟩ := h hn
  exact ⟨b, o, e, by omega, hc, hr⟩
theorem Bytes.take {w : World} {hi : Nat} {A : Option Addr} {bs : List Int} (h : Bytes w hi A bs) (n : Nat) : Bytes w hi A (bs.take n) := fun hn => by
  have hl : (bs.take n).length ≤ bs.length := by rw [List.length_take]; omega
  obtain ⟨b, o, e, h1, hc, hr⟩ := h (by omega)
  have hg : ∀ j, j < (bs.take n).length → (bs.take n).getD j 0 = bs.getD j 0 := fun j hj => by
    rw [List.length_take] at hj
    have hj' : j < n := by omega
    simp [List.getD, hj']
  exact ⟨b, o, e, h1, fun j hj => by rw [hg j hj]; exact hc j (by omega), fun j hj => by rw [hg j hj]; exact hr j (by omega)⟩

/-- A reader in block R: its bytes lie below it; its position is q. -/
structure Rd (w : World) (R : Nat) (A : Option Addr) (c : Nat) (bs : List Int) (q : Nat) : Prop where
  s : w.cell? ⟨R, 0, none⟩ = some (.slice A bs.length c)
  p : w.cell? ⟨R, 1, none⟩ = some (.int .i64 q)
  f : w.frozen? ⟨R, 1, none⟩ = false
  b : Bytes w R A bs
  lt : R < w.heap.size

theorem xor_i64 (a b : Nat) (ha : a < 4294967296) (hb : b < 4294967296) : bits .xor .i64 (a : Int) (b : Int) = ((a ^^^ b : Nat) : Int) := by
  have hx : a ^^^ b < 2 ^ 32 := Nat.xor_lt_two_pow (by omega) (by omega)
  have e : ∀ n : Nat, n < 4294967296 → (BitVec.ofInt 64 (n : Int)).toNat = n := fun n hn => by
    rw [BitVec.ofInt_natCast, BitVec.toNat_ofNat]; exact Nat.mod_eq_of_lt (by omega)
  show IntKind.i64.wrap ((BitVec.ofInt 64 (a : Int) ^^^ BitVec.ofInt 64 (b : Int)).toNat : Int) = _
  rw [BitVec.toNat_xor, e a ha, e b hb, IntKind.wrap_i64]
  omega
theorem draw_bd (x n : Int) (h0 : 0 ≤ x) (h1 : x ≤ 100000000) (hn : 1 ≤ n) : 0 ≤ (bits .xor .i64 x (x / 64)).tmod n ∧ (bits .xor .i64 x (x / 64)).tmod n < n := by
  obtain ⟨a, rfl⟩ := Int.eq_ofNat_of_zero_le h0
  have e : ((a : Int) / 64) = ((a / 64 : Nat) : Int) := by omega
  rw [e, xor_i64 a (a / 64) (by omega) (by omega)]
  exact ⟨Int.tmod_nonneg _ (by omega), Int.tmod_lt_of_pos _ (by omega)⟩

end Go.Proofs.Ytpoafafoncgenab
