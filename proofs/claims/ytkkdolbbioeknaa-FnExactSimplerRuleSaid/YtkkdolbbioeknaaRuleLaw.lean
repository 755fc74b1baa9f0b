/-
  What the laws of chapter 8 ask, of words and of the awards by them. No condition but those named.
-/
import Derived.Test.YtkkdolbbioeknaaSpec8B
namespace Go.Proofs.Ytkkdolbbioeknaa
open Go.RowKit

theorem ruleB_snoc {l : List UInt8} {x : UInt8} (h : ruleB l = true) (hl : l.length ≤ 7) (hx : turnL x = true) : ruleB (l ++ [x]) = true := by
  obtain ⟨a, r, rfl, h1, h2, h3⟩ := ruleB_form h
  simp only [List.length_cons] at hl
  refine ruleB_iff.2 ⟨h1, ?_, ?_⟩
  · simp [h2, hx]
  · simp; omega
theorem ruleB_two {l : List UInt8} {x y : UInt8} (h : ruleB l = true) (hl : l.length ≤ 6) (hx : turnL x = true) (hy : turnL y = true) : ruleB (l ++ [x, y]) = true := by
  have e := ruleB_snoc (ruleB_snoc h (by omega) hx) (by rw [List.length_append]; simp; omega) hy
  rwa [List.append_assoc] at e
theorem ruleRow_yes {E : Int} {xs : List Int} {l : List UInt8} (hc : caseOkB E xs = true) (h : ruleB l = true) : ruleRow E xs l = ruleAw l.reverse E xs := if_pos ⟨hc, h⟩
theorem ruleRow_some {E : Int} {xs : List Int} {l : List UInt8} (h : ¬ (ruleRow E xs l).length = 0) : caseOkB E xs = true ∧ ruleB l = true := by
  unfold ruleRow at h
  split at h
  · assumption
  · simp at h
theorem ruleRow_len (E : Int) (xs : List Int) (l : List UInt8) : (ruleRow E xs l).length ≤ 4 := by
  unfold ruleRow
  split
  · rename_i h
    rw [rule_len (ruleB_okR h.2) h.1]; exact (caseOk_bd h.1).2.1
  · simp
theorem ruleRow_is {E : Int} {xs : List Int} {l : List UInt8} (hc : caseOkB E xs = true) (h : ruleB l = true) : (ruleRow E xs l).length = xs.length := by rw [ruleRow_yes hc h, rule_len (ruleB_okR h) hc]
theorem ruleRow_aw {E : Int} {xs : List Int} {l : List UInt8} (hc : caseOkB E xs = true) (h : ruleB l = true) : awardsB E xs (ruleRow E xs l) = true := by
  rw [ruleRow_yes hc h]; exact (awardsB_iff _ _ _).2 (rule_aw (ruleB_okR h) hc)
theorem ruleRow_same {E : Int} {xs : List Int} {l m : List UInt8} (hl : ruleB l = true) (hm : ruleB m = true) (h : SameAw l.reverse m.reverse) : ruleRow E xs l = ruleRow E xs m := by
  by_cases hc : caseOkB E xs = true
  · rw [ruleRow_yes hc hl, ruleRow_yes hc hm]; exact h E xs hc
  · rw [ruleRow, if_neg (fun q => hc q.1), ruleRow, if_neg (fun q => hc q.1)]
theorem ruleRow_simp {E : Int} {xs : List Int} {l : List UInt8} (h : ruleB l = true) : ruleRow E xs (simpL l) = ruleRow E xs l :=
  ruleRow_same (simpL_ok h).1 h (simpL_ok h).2.2
theorem ruleRow_dd {E : Int} {xs : List Int} {l : List UInt8} (h : ruleB l = true) (hl : l.length ≤ 6) : ruleRow E xs (l ++ [100, 100]) = ruleRow E xs l :=
  ruleRow_same (ruleB_two h hl rfl rfl) h (by rw [List.reverse_append]; exact same_dd (ruleB_okR h))
theorem ruleRow_cd {E : Int} {xs : List Int} {l : List UInt8} (h : ruleB l = true) (hl : l.length ≤ 6) : ruleRow E xs (l ++ [99, 100]) = ruleRow E xs (l ++ [100, 114]) :=
  ruleRow_same (ruleB_two h hl rfl rfl) (ruleB_two h hl rfl rfl) (by rw [List.reverse_append, List.reverse_append]; exact same_cd (ruleB_okR h))
theorem ruleRow_rd {E : Int} {xs : List Int} {l : List UInt8} (h : ruleB l = true) (hl : l.length ≤ 6) : ruleRow E xs (l ++ [114, 100]) = ruleRow E xs (l ++ [100, 99]) :=
  ruleRow_same (ruleB_two h hl rfl rfl) (ruleB_two h hl rfl rfl) (by rw [List.reverse_append, List.reverse_append]; exact same_rd (ruleB_okR h))
theorem simpL_none {l : List UInt8} (h : simpL l = []) : ruleB l = false := by
  cases q : ruleB l with
  | false => rfl
  | true => exact absurd h (simpL_some q)
theorem simpL_rule {l : List UInt8} (h : ¬ simpL l = []) : ruleB l = true := by
  cases q : ruleB l with
  | true => rfl
  | false => exact absurd (simpL_no q) h
theorem short_form {l m : List UInt8} {t : Nat} (h : ruleB l = true) (ht : t ≤ 7) (hm : m = l.take 1 ++ List.replicate t 100) :
    ∃ a, l.take 1 = [a] ∧ simpL m = [if t % 2 = 1 ∧ a = 101 then 108 else if t % 2 = 1 ∧ a = 108 then 101 else a] := by
  obtain ⟨a, r, rfl, h1, _, _⟩ := ruleB_form h
  refine ⟨a, rfl, ?_⟩
  have e : m = a :: List.replicate t 100 := hm
  have q : ruleB m = true := by
    rw [e]; exact ruleB_iff.2 ⟨h1, List.all_eq_true.2 fun x hx => by rw [List.eq_of_mem_replicate hx]; rfl, by simpa using ht⟩
  rw [simpL, if_pos q, e]; exact simp_ds t a h1 ht
theorem short_e {l m : List UInt8} {t : Nat} (h : ruleB l = true) (ht : t ≤ 7) (hm : m = l.take 1 ++ List.replicate t 100) (h1 : (t : Int) % 2 = 1) (h2 : l.take 1 = [101]) : simpL m = [108] := by
  obtain ⟨a, q, e⟩ := short_form h ht hm
  rw [q] at h2
  injection h2 with h2 _
  rw [e, if_pos ⟨by omega, h2⟩]
theorem short_l {l m : List UInt8} {t : Nat} (h : ruleB l = true) (ht : t ≤ 7) (hm : m = l.take 1 ++ List.replicate t 100) (h1 : (t : Int) % 2 = 1) (h2 : l.take 1 = [108]) : simpL m = [101] := by
  obtain ⟨a, q, e⟩ := short_form h ht hm
  rw [q] at h2
  injection h2 with h2 _
  subst h2
  rw [e, if_neg (by simp), if_pos ⟨by omega, rfl⟩]
theorem short_same {l m : List UInt8} {t : Nat} (h : ruleB l = true) (ht : t ≤ 7) (hm : m = l.take 1 ++ List.replicate t 100) (h1 : ¬ ((t : Int) % 2 = 1 ∧ l.take 1 = [101])) (h2 : ¬ ((t : Int) % 2 = 1 ∧ l.take 1 = [108])) : simpL m = l.take 1 := by
  obtain ⟨a, q, e⟩ := short_form h ht hm
  rw [e, q, if_neg (fun z => h1 ⟨by omega, by rw [q, z.2]⟩), if_neg (fun z => h2 ⟨by omega, by rw [q, z.2]⟩)]

end Go.Proofs.Ytkkdolbbioeknaa
