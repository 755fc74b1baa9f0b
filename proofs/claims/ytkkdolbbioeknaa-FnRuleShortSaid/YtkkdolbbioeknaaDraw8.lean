/-
  The rules that are drawn for chapter 8: short texts; and cases with them, in new memory. No condition.
-/
import Derived.Test.YtkkdolbbioeknaaGA
import Derived.Test.YtkkdolbbioeknaaGD
import Derived.Test.YtkkdolbbioeknaaGrow
import Derived.Test.YtkkdolbbioeknaaStr
import Derived.BigQuiet
import Derived.Deep.Cut
namespace Go.Proofs.Ytkkdolbbioeknaa
open Go.RowKit

/-- What a drawn rule is: a short text, and the reader goes on. -/
def RuleTo (w : World) (R : Nat) (A : Option Addr) (c : Nat) (bs : List Int) (q : Nat) (e : Ending) (w' : World) : Prop :=
  ∃ l : List UInt8, e = .returned (.string (S l)) ∧ l.length ≤ 9 ∧ (∃ q', q' ≤ q + 20 ∧ Rd w' R A c bs q') ∧ Chg R (R + 1) w w'
def DrawnRule (w : World) (e : Ending) (w' : World) : Prop := ∃ l : List UInt8, l.length ≤ 9 ∧ e = .returned (.string (S l)) ∧ Below w.heap.size w w'
def DrawnCaseRule (w : World) (e : Ending) (w' : World) : Prop :=
  ∃ E A c, ∃ xs : List Int, ∃ l : List UInt8, xs.length ≤ 5 ∧ l.length ≤ 9 ∧ e = .returned (.tuple #[.agg #[.int .i64 E, .slice A xs.length c], .string (S l)]) ∧ Own w' w.heap.size w'.heap.size A xs ∧ Below w.heap.size w w'

set_option maxRecDepth 10000 in
set_option maxHeartbeats 2000000 in
theorem l20Rule_any (R : Nat) (A : Option Addr) (c : Nat) (bs : List Int) (q0 : Nat) (n : Int) (w : World) (h : Rd w R A c bs q0) (hn : 0 ≤ n) (hn' : n ≤ 1000000) (hl : bs.length ≤ 2000) (hq : q0 ≤ 100000) :
    Calls Try.prog 29 #[.pointer (some ⟨R, 0, none⟩), .int .i64 n] w (RuleTo w R A c bs q0) := by
  have hS1 := S_size
  have hS2 : ∀ (l : List UInt8) (k : Nat) (h : k < (S l).size), (S l)[k]'h = l[k]'(by rw [S_size] at h; exact h) := fun _ _ h => S_at2 h
  have hK0 : ({ data := #[] } : ByteArray) = S [] := rfl
  have hK1 : ({ data := #[100] } : ByteArray) = S [100] := rfl
  have hK2 : ({ data := #[101] } : ByteArray) = S [101] := rfl
  have hK3 : ({ data := #[101, 100, 100, 100, 100, 100, 100, 100, 100] } : ByteArray) = S [101, 100, 100, 100, 100, 100, 100, 100, 100] := rfl
  have hK4 : ({ data := #[101, 101] } : ByteArray) = S [101, 101] := rfl
  have hK5 : ({ data := #[101, 120] } : ByteArray) = S [101, 120] := rfl
  have hK6 : ({ data := #[104] } : ByteArray) = S [104] := rfl
  have hK7 : ({ data := #[104, 101] } : ByteArray) = S [104, 101] := rfl
  have hK8 : ({ data := #[108] } : ByteArray) = S [108] := rfl
  have hK9 : ({ data := #[114] } : ByteArray) = S [114] := rfl
  have hK10 : ({ data := #[97] } : ByteArray) = S [97] := rfl
  have hK11 : ({ data := #[99] } : ByteArray) = S [99] := rfl
  have hRw := h.lt
  go_enter Try.func29, Try.ntmps29
  have o1_ := h.alloc (.cells #[.string (S ([101] : List UInt8)), .string (S ([108] : List UInt8)), .string (S ([104] : List UInt8)), .string (S ([97] : List UInt8))] 9)
  have B2_ := (Chg.refl R (R + 1) w).trans (Chg.alloc w (.cells #[.string (S ([101] : List UInt8)), .string (S ([108] : List UInt8)), .string (S ([104] : List UInt8)), .string (S ([97] : List UInt8))] 9))
  have a3_ : (w.alloc (.cells #[.string (S ([101] : List UInt8)), .string (S ([108] : List UInt8)), .string (S ([104] : List UInt8)), .string (S ([97] : List UInt8))] 9)).cell? ⟨w.heap.size, 0, none⟩ = some (.string (S ([101] : List UInt8))) := by simp [go_sem]
  have a4_ : (w.alloc (.cells #[.string (S ([101] : List UInt8)), .string (S ([108] : List UInt8)), .string (S ([104] : List UInt8)), .string (S ([97] : List UInt8))] 9)).cell? ⟨w.heap.size, 1, none⟩ = some (.string (S ([108] : List UInt8))) := by simp [go_sem]
  have a5_ : (w.alloc (.cells #[.string (S ([101] : List UInt8)), .string (S ([108] : List UInt8)), .string (S ([104] : List UInt8)), .string (S ([97] : List UInt8))] 9)).cell? ⟨w.heap.size, 2, none⟩ = some (.string (S ([104] : List UInt8))) := by simp [go_sem]
  have a6_ : (w.alloc (.cells #[.string (S ([101] : List UInt8)), .string (S ([108] : List UInt8)), .string (S ([104] : List UInt8)), .string (S ([97] : List UInt8))] 9)).cell? ⟨w.heap.size, 3, none⟩ = some (.string (S ([97] : List UInt8))) := by simp [go_sem]
  go_wp2_with fail
  refine (pick_to R A c bs _ 4 _ o1_ (by omega) (by omega) hl (by omega)).mono ?_
  rintro e w7 ⟨u8_, rfl, u8_l, u8_h, rd9_, hC10_⟩
  have o11_ := (hC10_.cell (p := ⟨w.heap.size, 0, none⟩) (by first | omega | (simp; omega) | simp) (by first | omega | (simp; omega) | simp)).trans a3_
  have o12_ := (hC10_.cell (p := ⟨w.heap.size, 1, none⟩) (by first | omega | (simp; omega) | simp) (by first | omega | (simp; omega) | simp)).trans a4_
  have o13_ := (hC10_.cell (p := ⟨w.heap.size, 2, none⟩) (by first | omega | (simp; omega) | simp) (by first | omega | (simp; omega) | simp)).trans a5_
  have o14_ := (hC10_.cell (p := ⟨w.heap.size, 3, none⟩) (by first | omega | (simp; omega) | simp) (by first | omega | (simp; omega) | simp)).trans a6_
  have z15_ := hC10_.size
  try simp at z15_
  have B16_ := B2_.trans hC10_
  clear hC10_
  obtain ⟨x17_, hx17_⟩ : ∃ x : Nat, u8_ = (x : Int) := ⟨(u8_).toNat, by omega⟩
  have Hx17_ := Lib.hid hx17_
  have x17_b : x17_ < 4 := by omega
  have c18_ : w7.cell? ⟨w.heap.size, x17_, none⟩ = some (.string (S (([([101] : List UInt8), ([108] : List UInt8), ([104] : List UInt8), ([97] : List UInt8)] : List (List UInt8)).getD x17_ []))) := by rcases (show x17_ = 0 ∨ x17_ = 1 ∨ x17_ = 2 ∨ x17_ = 3 from by omega) with e | e | e | e <;> rw [e] <;> assumption
  have c18_i : (x17_ : Int) < 4 := by omega
  have c18_j : (0 : Int) ≤ (x17_ : Int) := by omega
  obtain ⟨y19_, hy19_⟩ : ∃ y, ([([101] : List UInt8), ([108] : List UInt8), ([104] : List UInt8), ([97] : List UInt8)] : List (List UInt8)).getD x17_ [] = y := ⟨_, rfl⟩
  rw [hy19_] at c18_
  have y19_n : y19_.length ≤ 1 := by rw [← hy19_]; rcases (show x17_ = 0 ∨ x17_ = 1 ∨ x17_ = 2 ∨ x17_ = 3 from by omega) with e | e | e | e <;> rw [e] <;> decide
  have Hy19_ := Lib.hid hy19_
  clear hy19_
  go_wp2_with fail
  refine (pick_to R A c bs _ 6 _ rd9_ (by omega) (by omega) hl (by omega)).mono ?_
  rintro e w20 ⟨u21_, rfl, u21_l, u21_h, rd22_, hC23_⟩
  have o24_ := (hC23_.cell (p := ⟨w.heap.size, 0, none⟩) (by first | omega | (simp; omega) | simp) (by first | omega | (simp; omega) | simp)).trans o11_
  have o25_ := (hC23_.cell (p := ⟨w.heap.size, 1, none⟩) (by first | omega | (simp; omega) | simp) (by first | omega | (simp; omega) | simp)).trans o12_
  have o26_ := (hC23_.cell (p := ⟨w.heap.size, 2, none⟩) (by first | omega | (simp; omega) | simp) (by first | omega | (simp; omega) | simp)).trans o13_
  have o27_ := (hC23_.cell (p := ⟨w.heap.size, 3, none⟩) (by first | omega | (simp; omega) | simp) (by first | omega | (simp; omega) | simp)).trans o14_
  have z28_ := hC23_.size
  have B29_ := B16_.trans hC23_
  clear hC23_
  go_wp2
  go_loopw [5, 6] (fun s k wr => ∃ l : List UInt8, ∃ j : Nat, s = .string (S l) ∧ k = .int .i64 j ∧ (l.length + j ≤ 6) ∧ (j ≤ 5) ∧ Chg R (R + 1) w wr ∧ w20.heap.size ≤ wr.heap.size ∧ (∃ q : Nat, q ≤ q0 + 8 - j ∧ Rd wr R A c bs q) ∧ wr.cell? ⟨w.heap.size, 0, none⟩ = some (.string (S ([101] : List UInt8))) ∧ wr.cell? ⟨w.heap.size, 1, none⟩ = some (.string (S ([108] : List UInt8))) ∧ wr.cell? ⟨w.heap.size, 2, none⟩ = some (.string (S ([104] : List UInt8))) ∧ wr.cell? ⟨w.heap.size, 3, none⟩ = some (.string (S ([97] : List UInt8)))) (fun s k _ => (intOf k).toNat)
  case atStart => exact ⟨y19_, (u21_).toNat, rfl, (by congr 1; omega), (by omega), (by omega), B29_, (by first | omega | (simp; omega) | simp), ⟨_, by omega, rd22_⟩, o24_, o25_, o26_, o27_⟩
  case round =>
    obtain ⟨l, j, rfl, rfl, hlj, hj5, k31_, k32_, ⟨k33_q, k33_h, k33_⟩, k34_, k35_, k36_, k37_⟩ := hrel
    obtain ⟨w30, rfl⟩ : ∃ x, x = wr := ⟨_, rfl⟩
    by_cases hlt0 : 0 < j
    · have o38_ := k33_.alloc (.cells #[.string (S ([100] : List UInt8)), .string (S ([99] : List UInt8)), .string (S ([114] : List UInt8))] 9)
      have o39_ := cell_alloc (o := (.cells #[.string (S ([100] : List UInt8)), .string (S ([99] : List UInt8)), .string (S ([114] : List UInt8))] 9)) k34_ (by first | omega | (simp; omega) | simp)
      have o40_ := cell_alloc (o := (.cells #[.string (S ([100] : List UInt8)), .string (S ([99] : List UInt8)), .string (S ([114] : List UInt8))] 9)) k35_ (by first | omega | (simp; omega) | simp)
      have o41_ := cell_alloc (o := (.cells #[.string (S ([100] : List UInt8)), .string (S ([99] : List UInt8)), .string (S ([114] : List UInt8))] 9)) k36_ (by first | omega | (simp; omega) | simp)
      have o42_ := cell_alloc (o := (.cells #[.string (S ([100] : List UInt8)), .string (S ([99] : List UInt8)), .string (S ([114] : List UInt8))] 9)) k37_ (by first | omega | (simp; omega) | simp)
      have B43_ := k31_.trans (Chg.alloc w30 (.cells #[.string (S ([100] : List UInt8)), .string (S ([99] : List UInt8)), .string (S ([114] : List UInt8))] 9))
      have a44_ : (w30.alloc (.cells #[.string (S ([100] : List UInt8)), .string (S ([99] : List UInt8)), .string (S ([114] : List UInt8))] 9)).cell? ⟨w30.heap.size, 0, none⟩ = some (.string (S ([100] : List UInt8))) := by simp [go_sem]
      have a45_ : (w30.alloc (.cells #[.string (S ([100] : List UInt8)), .string (S ([99] : List UInt8)), .string (S ([114] : List UInt8))] 9)).cell? ⟨w30.heap.size, 1, none⟩ = some (.string (S ([99] : List UInt8))) := by simp [go_sem]
      have a46_ : (w30.alloc (.cells #[.string (S ([100] : List UInt8)), .string (S ([99] : List UInt8)), .string (S ([114] : List UInt8))] 9)).cell? ⟨w30.heap.size, 2, none⟩ = some (.string (S ([114] : List UInt8))) := by simp [go_sem]
      go_wp2_with fail
      refine (pick_to R A c bs _ 3 _ o38_ (by omega) (by omega) hl (by omega)).mono ?_
      rintro e w47 ⟨u48_, rfl, u48_l, u48_h, rd49_, hC50_⟩
      have o51_ := (hC50_.cell (p := ⟨w.heap.size, 0, none⟩) (by first | omega | (simp; omega) | simp) (by first | omega | (simp; omega) | simp)).trans o39_
      have o52_ := (hC50_.cell (p := ⟨w.heap.size, 1, none⟩) (by first | omega | (simp; omega) | simp) (by first | omega | (simp; omega) | simp)).trans o40_
      have o53_ := (hC50_.cell (p := ⟨w.heap.size, 2, none⟩) (by first | omega | (simp; omega) | simp) (by first | omega | (simp; omega) | simp)).trans o41_
      have o54_ := (hC50_.cell (p := ⟨w.heap.size, 3, none⟩) (by first | omega | (simp; omega) | simp) (by first | omega | (simp; omega) | simp)).trans o42_
      have o55_ := (hC50_.cell (p := ⟨w30.heap.size, 0, none⟩) (by first | omega | (simp; omega) | simp) (by first | omega | (simp; omega) | simp)).trans a44_
      have o56_ := (hC50_.cell (p := ⟨w30.heap.size, 1, none⟩) (by first | omega | (simp; omega) | simp) (by first | omega | (simp; omega) | simp)).trans a45_
      have o57_ := (hC50_.cell (p := ⟨w30.heap.size, 2, none⟩) (by first | omega | (simp; omega) | simp) (by first | omega | (simp; omega) | simp)).trans a46_
      have z58_ := hC50_.size
      try simp at z58_
      have B59_ := B43_.trans hC50_
      clear hC50_
      obtain ⟨x60_, hx60_⟩ : ∃ x : Nat, u48_ = (x : Int) := ⟨(u48_).toNat, by omega⟩
      have Hx60_ := Lib.hid hx60_
      have x60_b : x60_ < 3 := by omega
      have c61_ : w47.cell? ⟨w30.heap.size, x60_, none⟩ = some (.string (S (([([100] : List UInt8), ([99] : List UInt8), ([114] : List UInt8)] : List (List UInt8)).getD x60_ []))) := by rcases (show x60_ = 0 ∨ x60_ = 1 ∨ x60_ = 2 from by omega) with e | e | e <;> rw [e] <;> assumption
      have c61_i : (x60_ : Int) < 3 := by omega
      have c61_j : (0 : Int) ≤ (x60_ : Int) := by omega
      obtain ⟨y62_, hy62_⟩ : ∃ y, ([([100] : List UInt8), ([99] : List UInt8), ([114] : List UInt8)] : List (List UInt8)).getD x60_ [] = y := ⟨_, rfl⟩
      rw [hy62_] at c61_
      have y62_n : y62_.length ≤ 1 := by rw [← hy62_]; rcases (show x60_ = 0 ∨ x60_ = 1 ∨ x60_ = 2 from by omega) with e | e | e <;> rw [e] <;> decide
      have Hy62_ := Lib.hid hy62_
      clear hy62_
      have hx63_ : Op.stringOp .add (S l) (S y62_) = pure (.string (S (l ++ y62_))) := S_add (by omega)
      go_wp2
      go_roundw
      case rel => exact ⟨(l ++ y62_), j - 1, by rfl, (by congr 1; omega), (by first | omega | (simp; omega)), by omega, B59_, (by first | omega | (simp; omega) | simp), ⟨_, by omega, rd49_⟩, o51_, o52_, o53_, o54_⟩
      case measure => simp [intOf] <;> omega
    · obtain rfl : j = 0 := by omega
      go_wp2_with fail
      refine (odd_to R A c bs _ n _ k33_ (by omega) (by omega) hl (by omega)).mono ?_
      rintro e w38 ⟨u39_, rfl, ⟨rq42_, rq42_h, rd40_⟩, hC41_⟩
      have o43_ := (hC41_.cell (p := ⟨w.heap.size, 0, none⟩) (by first | omega | (simp; omega) | simp) (by first | omega | (simp; omega) | simp)).trans k34_
      have o44_ := (hC41_.cell (p := ⟨w.heap.size, 1, none⟩) (by first | omega | (simp; omega) | simp) (by first | omega | (simp; omega) | simp)).trans k35_
      have o45_ := (hC41_.cell (p := ⟨w.heap.size, 2, none⟩) (by first | omega | (simp; omega) | simp) (by first | omega | (simp; omega) | simp)).trans k36_
      have o46_ := (hC41_.cell (p := ⟨w.heap.size, 3, none⟩) (by first | omega | (simp; omega) | simp) (by first | omega | (simp; omega) | simp)).trans k37_
      have z47_ := hC41_.size
      have B48_ := k31_.trans hC41_
      clear hC41_
      cases u39_
      · go_wp2
        go_ret
        exact ⟨l, rfl, (by omega), ⟨_, (by omega), rd40_⟩, B48_⟩
      · have o49_ := rd40_.alloc (.cells #[.string (S ([] : List UInt8)), .string (S ([100] : List UInt8)), .string (S ([101, 101] : List UInt8)), .string (S ([101, 120] : List UInt8)), .string (S ([101, 100, 100, 100, 100, 100, 100, 100, 100] : List UInt8)), .string (S ([104, 101] : List UInt8))] 9)
        have o50_ := cell_alloc (o := (.cells #[.string (S ([] : List UInt8)), .string (S ([100] : List UInt8)), .string (S ([101, 101] : List UInt8)), .string (S ([101, 120] : List UInt8)), .string (S ([101, 100, 100, 100, 100, 100, 100, 100, 100] : List UInt8)), .string (S ([104, 101] : List UInt8))] 9)) o43_ (by first | omega | (simp; omega) | simp)
        have o51_ := cell_alloc (o := (.cells #[.string (S ([] : List UInt8)), .string (S ([100] : List UInt8)), .string (S ([101, 101] : List UInt8)), .string (S ([101, 120] : List UInt8)), .string (S ([101, 100, 100, 100, 100, 100, 100, 100, 100] : List UInt8)), .string (S ([104, 101] : List UInt8))] 9)) o44_ (by first | omega | (simp; omega) | simp)
        have o52_ := cell_alloc (o := (.cells #[.string (S ([] : List UInt8)), .string (S ([100] : List UInt8)), .string (S ([101, 101] : List UInt8)), .string (S ([101, 120] : List UInt8)), .string (S ([101, 100, 100, 100, 100, 100, 100, 100, 100] : List UInt8)), .string (S ([104, 101] : List UInt8))] 9)) o45_ (by first | omega | (simp; omega) | simp)
        have o53_ := cell_alloc (o := (.cells #[.string (S ([] : List UInt8)), .string (S ([100] : List UInt8)), .string (S ([101, 101] : List UInt8)), .string (S ([101, 120] : List UInt8)), .string (S ([101, 100, 100, 100, 100, 100, 100, 100, 100] : List UInt8)), .string (S ([104, 101] : List UInt8))] 9)) o46_ (by first | omega | (simp; omega) | simp)
        have B54_ := B48_.trans (Chg.alloc w38 (.cells #[.string (S ([] : List UInt8)), .string (S ([100] : List UInt8)), .string (S ([101, 101] : List UInt8)), .string (S ([101, 120] : List UInt8)), .string (S ([101, 100, 100, 100, 100, 100, 100, 100, 100] : List UInt8)), .string (S ([104, 101] : List UInt8))] 9))
        have a55_ : (w38.alloc (.cells #[.string (S ([] : List UInt8)), .string (S ([100] : List UInt8)), .string (S ([101, 101] : List UInt8)), .string (S ([101, 120] : List UInt8)), .string (S ([101, 100, 100, 100, 100, 100, 100, 100, 100] : List UInt8)), .string (S ([104, 101] : List UInt8))] 9)).cell? ⟨w38.heap.size, 0, none⟩ = some (.string (S ([] : List UInt8))) := by simp [go_sem]
        have a56_ : (w38.alloc (.cells #[.string (S ([] : List UInt8)), .string (S ([100] : List UInt8)), .string (S ([101, 101] : List UInt8)), .string (S ([101, 120] : List UInt8)), .string (S ([101, 100, 100, 100, 100, 100, 100, 100, 100] : List UInt8)), .string (S ([104, 101] : List UInt8))] 9)).cell? ⟨w38.heap.size, 1, none⟩ = some (.string (S ([100] : List UInt8))) := by simp [go_sem]
        have a57_ : (w38.alloc (.cells #[.string (S ([] : List UInt8)), .string (S ([100] : List UInt8)), .string (S ([101, 101] : List UInt8)), .string (S ([101, 120] : List UInt8)), .string (S ([101, 100, 100, 100, 100, 100, 100, 100, 100] : List UInt8)), .string (S ([104, 101] : List UInt8))] 9)).cell? ⟨w38.heap.size, 2, none⟩ = some (.string (S ([101, 101] : List UInt8))) := by simp [go_sem]
        have a58_ : (w38.alloc (.cells #[.string (S ([] : List UInt8)), .string (S ([100] : List UInt8)), .string (S ([101, 101] : List UInt8)), .string (S ([101, 120] : List UInt8)), .string (S ([101, 100, 100, 100, 100, 100, 100, 100, 100] : List UInt8)), .string (S ([104, 101] : List UInt8))] 9)).cell? ⟨w38.heap.size, 3, none⟩ = some (.string (S ([101, 120] : List UInt8))) := by simp [go_sem]
        have a59_ : (w38.alloc (.cells #[.string (S ([] : List UInt8)), .string (S ([100] : List UInt8)), .string (S ([101, 101] : List UInt8)), .string (S ([101, 120] : List UInt8)), .string (S ([101, 100, 100, 100, 100, 100, 100, 100, 100] : List UInt8)), .string (S ([104, 101] : List UInt8))] 9)).cell? ⟨w38.heap.size, 4, none⟩ = some (.string (S ([101, 100, 100, 100, 100, 100, 100, 100, 100] : List UInt8))) := by simp [go_sem]
        have a60_ : (w38.alloc (.cells #[.string (S ([] : List UInt8)), .string (S ([100] : List UInt8)), .string (S ([101, 101] : List UInt8)), .string (S ([101, 120] : List UInt8)), .string (S ([101, 100, 100, 100, 100, 100, 100, 100, 100] : List UInt8)), .string (S ([104, 101] : List UInt8))] 9)).cell? ⟨w38.heap.size, 5, none⟩ = some (.string (S ([104, 101] : List UInt8))) := by simp [go_sem]
        go_wp2_with fail
        refine (pick_to R A c bs _ 6 _ o49_ (by omega) (by omega) hl (by omega)).mono ?_
        rintro e w61 ⟨u62_, rfl, u62_l, u62_h, rd63_, hC64_⟩
        have o65_ := (hC64_.cell (p := ⟨w.heap.size, 0, none⟩) (by first | omega | (simp; omega) | simp) (by first | omega | (simp; omega) | simp)).trans o50_
        have o66_ := (hC64_.cell (p := ⟨w.heap.size, 1, none⟩) (by first | omega | (simp; omega) | simp) (by first | omega | (simp; omega) | simp)).trans o51_
        have o67_ := (hC64_.cell (p := ⟨w.heap.size, 2, none⟩) (by first | omega | (simp; omega) | simp) (by first | omega | (simp; omega) | simp)).trans o52_
        have o68_ := (hC64_.cell (p := ⟨w.heap.size, 3, none⟩) (by first | omega | (simp; omega) | simp) (by first | omega | (simp; omega) | simp)).trans o53_
        have o69_ := (hC64_.cell (p := ⟨w38.heap.size, 0, none⟩) (by first | omega | (simp; omega) | simp) (by first | omega | (simp; omega) | simp)).trans a55_
        have o70_ := (hC64_.cell (p := ⟨w38.heap.size, 1, none⟩) (by first | omega | (simp; omega) | simp) (by first | omega | (simp; omega) | simp)).trans a56_
        have o71_ := (hC64_.cell (p := ⟨w38.heap.size, 2, none⟩) (by first | omega | (simp; omega) | simp) (by first | omega | (simp; omega) | simp)).trans a57_
        have o72_ := (hC64_.cell (p := ⟨w38.heap.size, 3, none⟩) (by first | omega | (simp; omega) | simp) (by first | omega | (simp; omega) | simp)).trans a58_
        have o73_ := (hC64_.cell (p := ⟨w38.heap.size, 4, none⟩) (by first | omega | (simp; omega) | simp) (by first | omega | (simp; omega) | simp)).trans a59_
        have o74_ := (hC64_.cell (p := ⟨w38.heap.size, 5, none⟩) (by first | omega | (simp; omega) | simp) (by first | omega | (simp; omega) | simp)).trans a60_
        have z75_ := hC64_.size
        try simp at z75_
        have B76_ := B54_.trans hC64_
        clear hC64_
        obtain ⟨x77_, hx77_⟩ : ∃ x : Nat, u62_ = (x : Int) := ⟨(u62_).toNat, by omega⟩
        have Hx77_ := Lib.hid hx77_
        have x77_b : x77_ < 6 := by omega
        have c78_ : w61.cell? ⟨w38.heap.size, x77_, none⟩ = some (.string (S (([([] : List UInt8), ([100] : List UInt8), ([101, 101] : List UInt8), ([101, 120] : List UInt8), ([101, 100, 100, 100, 100, 100, 100, 100, 100] : List UInt8), ([104, 101] : List UInt8)] : List (List UInt8)).getD x77_ []))) := by rcases (show x77_ = 0 ∨ x77_ = 1 ∨ x77_ = 2 ∨ x77_ = 3 ∨ x77_ = 4 ∨ x77_ = 5 from by omega) with e | e | e | e | e | e <;> rw [e] <;> assumption
        have c78_i : (x77_ : Int) < 6 := by omega
        have c78_j : (0 : Int) ≤ (x77_ : Int) := by omega
        obtain ⟨y79_, hy79_⟩ : ∃ y, ([([] : List UInt8), ([100] : List UInt8), ([101, 101] : List UInt8), ([101, 120] : List UInt8), ([101, 100, 100, 100, 100, 100, 100, 100, 100] : List UInt8), ([104, 101] : List UInt8)] : List (List UInt8)).getD x77_ [] = y := ⟨_, rfl⟩
        rw [hy79_] at c78_
        have y79_n : y79_.length ≤ 9 := by rw [← hy79_]; rcases (show x77_ = 0 ∨ x77_ = 1 ∨ x77_ = 2 ∨ x77_ = 3 ∨ x77_ = 4 ∨ x77_ = 5 from by omega) with e | e | e | e | e | e <;> rw [e] <;> decide
        have Hy79_ := Lib.hid hy79_
        clear hy79_
        go_wp2
        go_ret
        exact ⟨y79_, rfl, (by omega), ⟨_, (by omega), rd63_⟩, B76_⟩

set_option maxRecDepth 10000 in
set_option maxHeartbeats 2000000 in
theorem drawRuleOk_any (A : Option Addr) (c : Nat) (bs : List Int) (w : World) (h : Bytes w w.heap.size A bs) (hl : bs.length ≤ 9223372036854775807) (hc : bs.length ≤ c) :
    Calls Try.prog 10 #[.slice A bs.length c] w (DrawnRule w) := by
  have hS1 := S_size
  have hS2 : ∀ (l : List UInt8) (k : Nat) (h : k < (S l).size), (S l)[k]'h = l[k]'(by rw [S_size] at h; exact h) := fun _ _ h => S_at2 h
  have hK0 : ({ data := #[] } : ByteArray) = S [] := rfl
  go_enter Try.func10, Try.ntmps10
  go_wp2_with fail
  refine (l20Open_any A c bs _ (h.more (by first | omega | (simp; omega) | simp)) (by omega) hc).mono ?_
  rintro e w1 ⟨rfl, hb3_, rc1_, rb1_, rl1_, rd2_⟩
  have o4_ := h.below hb3_ (by first | omega | (simp; omega) | simp)
  have z5_ := hb3_.size
  have B6_ := (Below.refl w.heap.size w).trans (hb3_.mono (by first | omega | (simp; omega) | simp))
  clear hb3_
  have l7_ := rd2_.lt
  go_wp2_with fail
  refine (l20Rule_any (w.heap.size) A rc1_ rb1_ _ 2 _ rd2_ (by omega) (by omega) rl1_ (by omega)).mono ?_
  rintro e w8 ⟨l12_, rfl, l12_n, ⟨rq11_, rq11_h, rd9_⟩, hC10_⟩
  have o13_ := o4_.chg hC10_ (by first | omega | (simp; omega) | simp) (by omega)
  have z14_ := hC10_.size
  have B15_ := B6_.trans (hC10_.below (by omega) (by first | omega | (simp; omega) | simp))
  clear hC10_
  go_wp2
  go_ret
  exact ⟨l12_, (by omega), rfl, B15_⟩

set_option maxRecDepth 10000 in
set_option maxHeartbeats 2000000 in
theorem drawSimplerRule_any (A : Option Addr) (c : Nat) (bs : List Int) (w : World) (h : Bytes w w.heap.size A bs) (hl : bs.length ≤ 9223372036854775807) (hc : bs.length ≤ c) :
    Calls Try.prog 19 #[.slice A bs.length c] w (DrawnRule w) := by
  have hS1 := S_size
  have hS2 : ∀ (l : List UInt8) (k : Nat) (h : k < (S l).size), (S l)[k]'h = l[k]'(by rw [S_size] at h; exact h) := fun _ _ h => S_at2 h
  have hK0 : ({ data := #[] } : ByteArray) = S [] := rfl
  go_enter Try.func19, Try.ntmps19
  go_wp2_with fail
  refine (l20Open_any A c bs _ (h.more (by first | omega | (simp; omega) | simp)) (by omega) hc).mono ?_
  rintro e w1 ⟨rfl, hb3_, rc1_, rb1_, rl1_, rd2_⟩
  have o4_ := h.below hb3_ (by first | omega | (simp; omega) | simp)
  have z5_ := hb3_.size
  have B6_ := (Below.refl w.heap.size w).trans (hb3_.mono (by first | omega | (simp; omega) | simp))
  clear hb3_
  have l7_ := rd2_.lt
  go_wp2_with fail
  refine (l20Rule_any (w.heap.size) A rc1_ rb1_ _ 9 _ rd2_ (by omega) (by omega) rl1_ (by omega)).mono ?_
  rintro e w8 ⟨l12_, rfl, l12_n, ⟨rq11_, rq11_h, rd9_⟩, hC10_⟩
  have o13_ := o4_.chg hC10_ (by first | omega | (simp; omega) | simp) (by omega)
  have z14_ := hC10_.size
  have B15_ := B6_.trans (hC10_.below (by omega) (by first | omega | (simp; omega) | simp))
  clear hC10_
  go_wp2
  go_ret
  exact ⟨l12_, (by omega), rfl, B15_⟩

set_option maxRecDepth 10000 in
set_option maxHeartbeats 2000000 in
theorem drawRuleAwards_any (A : Option Addr) (c : Nat) (bs : List Int) (w : World) (h : Bytes w w.heap.size A bs) (hl : bs.length ≤ 9223372036854775807) (hc : bs.length ≤ c) :
    Calls Try.prog 13 #[.slice A bs.length c] w (DrawnCaseRule w) := by
  have hS1 := S_size
  have hS2 : ∀ (l : List UInt8) (k : Nat) (h : k < (S l).size), (S l)[k]'h = l[k]'(by rw [S_size] at h; exact h) := fun _ _ h => S_at2 h
  have hK0 : ({ data := #[] } : ByteArray) = S [] := rfl
  go_enter Try.func13, Try.ntmps13
  have o1_ := h.below ((Below.refl _ _).alloc (Nat.le_refl _) (.cells #[.int .i64 0, .slice none 0 0] 28)) (by first | omega | (simp; omega) | simp)
  have B2_ := (Below.refl w.heap.size w).alloc (Nat.le_refl _) (.cells #[.int .i64 0, .slice none 0 0] 28)
  have a3_ : (w.alloc (.cells #[.int .i64 0, .slice none 0 0] 28)).cell? ⟨w.heap.size, 0, none⟩ = some (.int .i64 0) := by simp [go_sem]
  have a4_ : (w.alloc (.cells #[.int .i64 0, .slice none 0 0] 28)).cell? ⟨w.heap.size, 1, none⟩ = some (.slice none 0 0) := by simp [go_sem]
  have f5_ : (w.alloc (.cells #[.int .i64 0, .slice none 0 0] 28)).frozen? ⟨w.heap.size, 0, none⟩ = false := by simp [go_sem]
  have f6_ : (w.alloc (.cells #[.int .i64 0, .slice none 0 0] 28)).frozen? ⟨w.heap.size, 1, none⟩ = false := by simp [go_sem]
  go_wp2_with fail
  refine (l20Open_any A c bs _ (o1_.more (by first | omega | (simp; omega) | simp)) (by omega) hc).mono ?_
  rintro e w7 ⟨rfl, hb9_, rc7_, rb7_, rl7_, rd8_⟩
  simp only [hsz] at rd8_
  have o10_ := o1_.below hb9_ (by first | omega | (simp; omega) | simp)
  have o11_ := (hb9_.cell (p := ⟨w.heap.size, 0, none⟩) (by first | omega | (simp; omega) | simp)).trans a3_
  have o12_ := (hb9_.cell (p := ⟨w.heap.size, 1, none⟩) (by first | omega | (simp; omega) | simp)).trans a4_
  have o13_ := (hb9_.frozen (p := ⟨w.heap.size, 0, none⟩) (by first | omega | (simp; omega) | simp)).trans f5_
  have o14_ := (hb9_.frozen (p := ⟨w.heap.size, 1, none⟩) (by first | omega | (simp; omega) | simp)).trans f6_
  have z15_ := hb9_.size
  try simp at z15_
  have B16_ := B2_.trans (hb9_.mono (by first | omega | (simp; omega) | simp))
  clear hb9_
  have l17_ := rd8_.lt
  go_wp2_with fail
  refine (l20Case_anyB (w.heap.size + 1) A rc7_ rb7_ _ 14 _ rd8_ (by omega) (by omega) rl7_ (by omega)).mono ?_
  rintro e w18 ⟨E, A22_, c23_, xs, rfl, ho24_, hx5, ⟨rq21_, rq21_h, rd19_⟩, hC20_, hsm⟩
  have o25_ := o10_.chg hC20_ (by first | omega | (simp; omega) | simp) (by omega)
  have o26_ := (hC20_.cell (p := ⟨w.heap.size, 0, none⟩) (by first | omega | (simp; omega) | simp) (by first | omega | (simp; omega) | simp)).trans o11_
  have o27_ := (hC20_.cell (p := ⟨w.heap.size, 1, none⟩) (by first | omega | (simp; omega) | simp) (by first | omega | (simp; omega) | simp)).trans o12_
  have o28_ := (hC20_.frozen (p := ⟨w.heap.size, 0, none⟩) (by first | omega | (simp; omega) | simp) (by first | omega | (simp; omega) | simp)).trans o13_
  have o29_ := (hC20_.frozen (p := ⟨w.heap.size, 1, none⟩) (by first | omega | (simp; omega) | simp) (by first | omega | (simp; omega) | simp)).trans o14_
  have z30_ := hC20_.size
  have B31_ := B16_.trans (hC20_.below (by omega) (by first | omega | (simp; omega) | simp))
  clear hC20_
  go_wp2_with fail
  refine (l20Rule_any (w.heap.size + 1) A rc7_ rb7_ _ 14 _ rd19_ (by omega) (by omega) rl7_ (by omega)).mono ?_
  rintro e w32 ⟨l36_, rfl, l36_n, ⟨rq35_, rq35_h, rd33_⟩, hC34_⟩
  have o37_ := o25_.chg hC34_ (by first | omega | (simp; omega) | simp) (by omega)
  have o38_ := ho24_.chg hC34_ (by first | omega | (simp; omega) | simp) (by omega)
  have o39_ := (hC34_.cell (p := ⟨w.heap.size, 0, none⟩) (by first | omega | (simp; omega) | simp) (by first | omega | (simp; omega) | simp)).trans o26_
  have o40_ := (hC34_.cell (p := ⟨w.heap.size, 1, none⟩) (by first | omega | (simp; omega) | simp) (by first | omega | (simp; omega) | simp)).trans o27_
  have o41_ := (hC34_.frozen (p := ⟨w.heap.size, 0, none⟩) (by first | omega | (simp; omega) | simp) (by first | omega | (simp; omega) | simp)).trans o28_
  have o42_ := (hC34_.frozen (p := ⟨w.heap.size, 1, none⟩) (by first | omega | (simp; omega) | simp) (by first | omega | (simp; omega) | simp)).trans o29_
  have z43_ := hC34_.size
  have B44_ := B31_.trans (hC34_.below (by omega) (by first | omega | (simp; omega) | simp))
  clear hC34_
  have hC45_ := Chg.setCell (lo := w.heap.size) (hi := w.heap.size + 1) w32 (p := ⟨w.heap.size, 0, none⟩) ⟨Nat.le_refl _, Nat.lt_succ_self _⟩ (.int .i64 E)
  have a46_ := cell_set o39_ (.int .i64 E)
  have a47_ := cell_set_off o40_ (i := 0) (by omega) (.int .i64 E)
  have f48_ := frozen_set o41_ ⟨w.heap.size, 0, none⟩ (.int .i64 E)
  have f49_ := frozen_set o42_ ⟨w.heap.size, 0, none⟩ (.int .i64 E)
  have o50_ := o37_.chg hC45_ (by first | omega | (simp; omega) | simp) (by omega)
  have o51_ := o38_.chg hC45_ (by first | omega | (simp; omega) | simp) (by omega)
  have z52_ := hC45_.size
  try simp at z52_
  have B53_ := B44_.trans (hC45_.below (by omega) (by first | omega | (simp; omega) | simp))
  clear hC45_
  have hC54_ := Chg.setCell (lo := w.heap.size) (hi := w.heap.size + 1) (w32.setCell ⟨w.heap.size, 0, none⟩ (.int .i64 E)) (p := ⟨w.heap.size, 1, none⟩) ⟨Nat.le_refl _, Nat.lt_succ_self _⟩ (.slice A22_ xs.length c23_)
  have a55_ := cell_set_off a46_ (i := 1) (by omega) (.slice A22_ xs.length c23_)
  have a56_ := cell_set a47_ (.slice A22_ xs.length c23_)
  have f57_ := frozen_set f48_ ⟨w.heap.size, 1, none⟩ (.slice A22_ xs.length c23_)
  have f58_ := frozen_set f49_ ⟨w.heap.size, 1, none⟩ (.slice A22_ xs.length c23_)
  have o59_ := o50_.chg hC54_ (by first | omega | (simp; omega) | simp) (by omega)
  have o60_ := o51_.chg hC54_ (by first | omega | (simp; omega) | simp) (by omega)
  have z61_ := hC54_.size
  try simp at z61_
  have B62_ := B53_.trans (hC54_.below (by omega) (by first | omega | (simp; omega) | simp))
  clear hC54_
  go_wp2
  refine bodyPost_ret (v := .tuple #[.agg #[.int .i64 E, .slice A22_ xs.length c23_], .string (S l36_)]) (by simp [results, Try.results13, go_sem, a55_, a56_]) rfl ?_
  exact ⟨E, A22_, c23_, xs, l36_, hx5, (by omega), rfl, o60_.more (by omega) (by first | omega | (simp; omega) | simp), B62_⟩


end Go.Proofs.Ytkkdolbbioeknaa
