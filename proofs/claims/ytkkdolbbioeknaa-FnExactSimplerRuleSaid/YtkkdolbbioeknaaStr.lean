/-
  Strings as lists of bytes: how they are cut, put together, compared. No condition.
-/
import Derived.Test.YtkkdolbbioeknaaGA
namespace Go.Proofs.Ytkkdolbbioeknaa
open Go.RowKit

/-- A string by its bytes. -/
def S (l : List UInt8) : ByteArray := ⟨l.toArray⟩
theorem S_of (s : ByteArray) : S s.data.toList = s := by cases s; simp [S]
theorem S_size (l : List UInt8) : (S l).size = l.length := by simp [S, ByteArray.size]
theorem S_at {l : List UInt8} {k : Nat} (h : k < (S l).size) : (S l)[k]'h = l.getD k 0 := by
  have hk : k < l.length := by rw [S_size] at h; exact h
  show l.toArray[k]'(by simpa using hk) = _
  simp [List.getD, List.getElem?_eq_getElem hk]
theorem S_at2 {l : List UInt8} {k : Nat} (h : k < (S l).size) : (S l)[k]'h = l[k]'(by rw [S_size] at h; exact h) := by
  show l.toArray[k]'(by rw [S_size] at h; simpa using h) = _
  simp
theorem getD_byte (l : List UInt8) {k : Nat} (h : k < l.length) : l.getD k 0 = l[k] := by simp [List.getD, List.getElem?_eq_getElem h]
theorem S_cut (l : List UInt8) (a b : Nat) : (S l).extract a b = S ((l.drop a).take (b - a)) := ByteArray.extract_mk l a b
theorem S_front {l : List UInt8} {m : Nat} : (S l).extract 0 m = S (l.take m) := by rw [S_cut]; simp
theorem S_back {l : List UInt8} {m n : Nat} (hn : l.length = n) : (S l).extract m n = S (l.drop m) := by
  rw [S_cut]; congr 1
  exact List.take_of_length_le (by rw [List.length_drop]; omega)
theorem S_app (l m : List UInt8) : S l ++ S m = S (l ++ m) := by
  apply ByteArray.ext
  simp [S, ByteArray.data_append]
theorem S_list (l : List UInt8) : (S l).toList = l := by
  have e : (S l).data.toList = l := by simp [S]
  rw [ByteArray.toList_eq]; exact e
theorem S_eq {l m : List UInt8} : ((S l).toList == (S m).toList) = decide (l = m) := by
  rw [S_list, S_list]; by_cases h : l = m <;> simp [h]
theorem S_inj {l m : List UInt8} (h : S l = S m) : l = m := by
  have e := congrArg (fun s : ByteArray => s.data.toList) h
  simpa [S] using e
theorem byte_bd (x : UInt8) : (0 : Int) ≤ (x.toNat : Int) ∧ (x.toNat : Int) ≤ 255 := by have e := x.toNat_lt; omega
theorem S_add {l m : List UInt8} (h : l.length + m.length ≤ 4611686018427387904) : Op.stringOp .add (S l) (S m) = pure (.string (S (l ++ m))) := by
  have e : ¬ (((S l).size + (S m).size : Nat) : Int) > IntKind.i64.max := by
    rw [S_size, S_size]; show ¬ _ > (9223372036854775807 : Int); omega
  simp only [Op.stringOp]
  rw [if_neg e, S_app]
theorem ret_str {a b : List UInt8} (h : a = b) : Ending.returned (.string (S a)) = .returned (.string (S b)) := by rw [h]
theorem byte_is {x : UInt8} {v : Int} (h : (x.toNat : Int) = v) (n : UInt8) (e : v = (n.toNat : Int)) : x = n := UInt8.toNat_inj.1 (by omega)
theorem byte_not {x : UInt8} {v : Int} (h : (x.toNat : Int) = v) (n : UInt8) (e : ¬ v = (n.toNat : Int)) : ¬ x = n := fun q => e (by rw [← h, q])

end Go.Proofs.Ytkkdolbbioeknaa
