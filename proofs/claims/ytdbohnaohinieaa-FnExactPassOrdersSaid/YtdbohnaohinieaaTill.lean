/-
  Regions that draw their order, with loads beside calls and one store s that waits for all of them: a condition on the world holds till s has come up, and is no longer asked behind it. No condition.
-/
import Derived.Deep.RegionHeld
import Derived.Test.YtdbohnaohinieaaFx
namespace Go.Proofs.Ytdbohnaohinieaa
open Go.RowKit

section
variable {P : Program} {ops : Array Oper} {Q : Exit → Act → World → Prop} {md : Region.Mode} {S : World → Prop} {s : Nat}

/-- Whatever order is left; S stands behind all but s. -/
def Till (P : Program) (md : Region.Mode) (ops : Array Oper) (Q : Exit → Act → World → Prop) (S : World → Prop) (s : Nat) : Nat → Array Bool → Act → World → Prop
  | 0, L, a, w => Region.ready md ops L = [] ∧ Q .normal a w
  | n + 1, L, a, w => (Region.ready md ops L = [] → Q .normal a w) ∧ ∀ i ∈ Region.ready md ops L, wpOp P ops Q i (fun b v => (i = s ∨ S v) ∧ Till P md ops Q S s n (L.setIfInBounds i true) b v) a w
theorem Till.any : ∀ (n : Nat) (L : Array Bool) (a : Act) (w : World), Till P md ops Q S s n L a w → wpAny P md ops Q n L a w
  | 0, _, _, _, h => h
  | n + 1, _, _, _, ⟨h0, h1⟩ => ⟨h0, fun i hi => wpOp_mono (fun b v q => Till.any n _ b v q.2) (h1 i hi)⟩
/-- What is listed waits for nothing that isn't. -/
def Shed (md : Region.Mode) (ops : Array Oper) (L : Array Bool) : Prop := ∀ k o, ops[k]? = some o → L.getD k true = true → ∀ e ∈ o.after, Region.binds md e = true → L.getD e.on false = true
def shedB (md : Region.Mode) (ops : Array Oper) (L : Array Bool) : Bool := (List.range ops.size).all fun k => !(L.getD k true) || match ops[k]? with
  | some o => o.after.all fun e => !(Region.binds md e) || L.getD e.on false
  | none => true
theorem shed_of {L : Array Bool} (h : shedB md ops L = true) : Shed md ops L := fun k o ho hk e he hb => by
  unfold shedB at h
  have h1 := List.all_eq_true.1 h k (List.mem_range.2 (Array.getElem?_eq_some_iff.1 ho).1)
  simp only [hk, ho, Bool.not_true, Bool.false_or] at h1
  have h2 := Array.all_eq_true_iff_forall_mem.1 h1 e he
  simpa [hb] using h2
/-- Whether an operation waits for another, through others too. -/
def waitsB (md : Region.Mode) (ops : Array Oper) (i : Nat) : Nat → Nat → Bool
  | 0, _ => false
  | n + 1, k => match ops[k]? with
    | some o => o.after.any fun e => Region.binds md e && (e.on == i || waitsB md ops i n e.on)
    | none => false
theorem false_of_true {L : Array Bool} {k : Nat} (h : L.getD k true = false) : L.getD k false = false := by
  rcases Nat.lt_or_ge k L.size with q | q
  · simpa [q] using h
  · simp [Array.getElem?_eq_none q] at h
theorem waits_not {L : Array Bool} (hL : Shed md ops L) {i : Nat} (hi : L.getD i false = false) : ∀ (n k : Nat), waitsB md ops i n k = true → L.getD k false = false ∧ k ∉ Region.ready md ops L
  | 0, _, h => by cases h
  | n + 1, k, h => by
    unfold waitsB at h
    split at h
    · rename_i o ho
      obtain ⟨e, he, hb⟩ := Array.any_eq_true'.1 h
      simp only [Bool.and_eq_true, Bool.or_eq_true, beq_iff_eq] at hb
      have hno : L.getD e.on false = false := by
        rcases hb.2 with q | q
        · rw [q]; exact hi
        · exact (waits_not hL hi n e.on q).1
      refine ⟨?_, fun hk => ?_⟩
      · cases hq : L.getD k false with
        | false => rfl
        | true =>
          have ht : L.getD k true = true := by
            rcases Nat.lt_or_ge k L.size with q | q
            · simpa [q] using hq
            · simp [Array.getElem?_eq_none q]
          rw [hL k o ho ht e he hb.1] at hno; cases hno
      · obtain ⟨_, o', ho', hall⟩ := mem_ready.1 hk
        rw [ho] at ho'; injection ho' with ho'
        subst ho'
        rw [hall e he hb.1] at hno; cases hno
    · cases h
theorem Shed.more {L : Array Bool} (h : Shed md ops L) {j : Nat} (hj : j ∈ Region.ready md ops L) : Shed md ops (L.setIfInBounds j true) := fun k o ho hk e he hb => by
  refine getD_set_true ?_
  by_cases q : j = k
  · subst q
    obtain ⟨_, o', ho', hall⟩ := mem_ready.1 hj
    rw [ho] at ho'; injection ho' with ho'
    subst ho'
    exact hall e he hb
  · rw [getD_set_ne true q] at hk
    exact h k o ho hk e he hb
/-- What s waits for, and yields its value wherever S stands, may come first. -/
theorem Till.first {i : Nat} {oi : Oper} {v : Value} {m : Nat} (hi : ops[i]? = some oi) (hsel : ∀ (j : Nat) (o : Oper) cs b, ops[j]? = some o → o.op ≠ .select cs b)
    (hQ : ∀ c a w, Q (.panic c) (a.put oi.dst v) w → Q (.panic c) a w) (hwait : waitsB md ops i m s = true) :
    ∀ (n : Nat) (L : Array Bool) (a : Act) (w : World), Shed md ops L →
      (∀ j oj, ops[j]? = some oj → j ≠ i → L.getD j true = false → (∀ e ∈ oj.after, Region.binds md e = true → e.on ≠ i) → oi.apart ops oj = true) →
      i ∈ Region.ready md ops L → YieldsIf P ops S oi v a → S w →
      Till P md ops Q S s n (L.setIfInBounds i true) (a.put oi.dst v) w → Till P md ops Q S s (n + 1) L a w := by
  intro n
  induction n with
  | zero =>
    intro L a w hL _ hr hy hS H
    refine ⟨fun q => absurd (q ▸ hr) (by simp), fun j hj => ?_⟩
    by_cases e : j = i
    · subst e; exact hy.wpOp hi hS ⟨Or.inr hS, H⟩
    · have q := ready_mono (i := i) hj e
      rw [H.1] at q; cases q
  | succ n ih =>
    intro L a w hL hfree hr hy hS H
    refine ⟨fun q => absurd (q ▸ hr) (by simp), fun j hj => ?_⟩
    by_cases e : j = i
    · subst e; exact hy.wpOp hi hS ⟨Or.inr hS, H⟩
    · obtain ⟨hun, oj, hoj, hall⟩ := mem_ready.1 hj
      have hout := (mem_ready.1 hr).1
      have hjs : ¬ j = s := fun z => (waits_not hL (false_of_true hout) m s hwait).2 (z ▸ hj)
      have hno : ∀ x ∈ oj.after, Region.binds md x = true → x.on ≠ i := fun x hx hb z => by
        have q := hall x hx hb
        rw [z, false_of_true hout] at q; cases q
      have hstep := wpOp_putIf hoj (hfree j oj hoj e hun hno) (fun cs b => hsel i oi cs b hi) (fun cs b => hsel j oj cs b hoj) hQ hy (H.2 j (ready_mono hj e))
      refine wpOp_mono (fun b u q => ?_) hstep
      have hSu : S u := q.2.1.resolve_left hjs
      refine ⟨q.2.1, ih _ b u (hL.more hj) (fun k ok hk hki huk hnk => hfree k ok hk hki ?_ hnk) (ready_mono hr (Ne.symm e)) q.1 hSu ?_⟩
      · by_cases z : j = k
        · subst z; exact hun
        · rwa [getD_set_ne true z] at huk
      · rw [Array.setIfInBounds_comm _ _ e]
        exact q.2.2
theorem Till.take {i : Nat} {oi : Oper} {v : Value} {n m : Nat} {L : Array Bool} {a : Act} {w : World} (hi : ops[i]? = some oi) (hs : Region.noSelect ops = true) (hf : Region.free md ops L i = true) (hr : (Region.ready md ops L).contains i = true)
    (hQ : ∀ c a w, Q (.panic c) (a.put oi.dst v) w → Q (.panic c) a w) (hy : YieldsIf P ops S oi v a) (hS : S w) (hL : shedB md ops L = true) (hwait : waitsB md ops i m s = true)
    (h : Till P md ops Q S s n (L.setIfInBounds i true) (a.put oi.dst v) w) : Till P md ops Q S s (n + 1) L a w :=
  Till.first hi (Region.noSelect_spec hs) hQ hwait n L a w (shed_of hL) (Region.free_spec hi hf) (by simpa using hr) hy hS h
/-- The one that is ready, another than s. -/
theorem Till.one {i : Nat} {o : Oper} {n : Nat} {L : Array Bool} {a : Act} {w : World} (hr : Region.ready md ops L = [i]) (ho : ops[i]? = some o)
    (h : ∀ K : Act → World → Prop, Shut (∀ b v, S v → (S v → Till P md ops Q S s n (L.setIfInBounds i true) b v) → K b v) → if Region.wanted o (yielded ops a.tmps) = true then Oper.wp P o a w K Q else K (a.put o.dst undef) w) :
    Till P md ops Q S s (n + 1) L a w := ⟨fun q => (by rw [hr] at q; cases q), fun j hj => by
  rw [hr] at hj
  obtain rfl : j = i := by simpa using hj
  exact wpOp_step ho fun K hK => h K fun b v hS hT => hK b v ⟨Or.inr hS, hT hS⟩⟩
/-- s itself. -/
theorem Till.last {o : Oper} {n : Nat} {L : Array Bool} {a : Act} {w : World} (hr : Region.ready md ops L = [s]) (ho : ops[s]? = some o)
    (h : ∀ K : Act → World → Prop, Shut (∀ b v, Till P md ops Q S s n (L.setIfInBounds s true) b v → K b v) → if Region.wanted o (yielded ops a.tmps) = true then Oper.wp P o a w K Q else K (a.put o.dst undef) w) :
    Till P md ops Q S s (n + 1) L a w := ⟨fun q => (by rw [hr] at q; cases q), fun j hj => by
  rw [hr] at hj
  obtain rfl : j = s := by simpa using hj
  exact wpOp_step ho fun K hK => h K fun b v hT => hK b v ⟨Or.inl rfl, hT⟩⟩
theorem Till.done {L : Array Bool} {a : Act} {w : World} (hr : Region.ready md ops L = []) (h : Q .normal a w) : ∀ n, Till P md ops Q S s n L a w
  | 0 => ⟨hr, h⟩
  | _ + 1 => ⟨fun _ => h, fun i hi => by rw [hr] at hi; cases hi⟩
theorem till_region {id : Nat} {a : Act} {w : World} (s : Nat) (hm : P.follows .mixedOrders = true) (hS : S w.drew) (h : S w.drew → Till P .any ops Q S s ops.size (Array.replicate ops.size false) a w.drew) : (Code.region id ops true).wp P Q a w :=
  wp_region_any hm (Till.any _ _ _ _ (h hS))
end

end Go.Proofs.Ytdbohnaohinieaa
