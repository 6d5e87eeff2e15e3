/-
  Names in their order: ascending names of rules are no more than there are rules. No program here.
-/
import Derived.Test.YtglefolkecimabdWrB
import Derived.Sort.Walk0
namespace Go.Proofs.Ytglefolkecimabd
open Go

theorem sLt_iff {x y : ByteArray} : sLt x y = true ↔ x.toList < y.toList := by
  unfold sLt
  rw [bytesLess_eq]
  simp
theorem sLt_trans {x y z : ByteArray} (h : sLt x y = true) (k : sLt y z = true) : sLt x z = true := by
  rw [sLt_iff] at *
  exact List.lt_trans h k
theorem sLt_irr (x : ByteArray) : sLt x x = false := by
  cases e : sLt x x with
  | false => rfl
  | true => rw [sLt_iff] at e; exact absurd e (List.lt_irrefl _)
theorem sEq_iff {x y : ByteArray} : sEq x y = true ↔ x.toList = y.toList := by simp [sEq]
theorem sLt_eq {x y z : ByteArray} (h : sEq x y = true) : sLt x z = sLt y z := by unfold sLt; rw [sEq_iff.1 h]
theorem sLt_eq2 {x y z : ByteArray} (h : sEq x y = true) : sLt z x = sLt z y := by unfold sLt; rw [sEq_iff.1 h]
/-- The rule that is found has the name. -/
theorem wfK_name {rs : List Wr} {s : ByteArray} (h : wfK rs s < rs.length) : sEq (elAt rs (wfK rs s)).n s = true := by
  unfold wfK at h ⊢
  cases e : (List.range rs.length).find? fun i => sEq (elAt rs i).n s with
  | none => rw [e] at h; simp at h
  | some k =>
    rw [List.find?_range_eq_some] at e
    simpa using e.1
theorem wr_up {rs : List Wr} (h : wrB rs = true) {i : Nat} (hi : i + 1 < rs.length) : sLt (elAt rs i).n (elAt rs (i + 1)).n = true := by
  have := (wrB_facts h).1 (i + 1) hi
  unfold wrAtB wrSB at this
  simp only [Bool.and_eq_true, Bool.or_eq_true, decide_eq_true_eq] at this
  have k := this.1.1.1.1.2
  rcases k with k | k
  · omega
  · simpa using k
theorem wr_asc {rs : List Wr} (h : wrB rs = true) : ∀ (m i : Nat), i + m + 1 < rs.length → sLt (elAt rs i).n (elAt rs (i + m + 1)).n = true
  | 0, i, hi => wr_up h hi
  | m + 1, i, hi => sLt_trans (wr_asc h m i (by omega)) (wr_up h (i := i + m + 1) hi)
theorem nm_facts {rs : List Wr} {ts : List ByteArray} (h : nmB rs ts = true) {i : Nat} (hi : i < ts.length) : wfK rs (elAt ts i) < rs.length ∧ (i = 0 ∨ sLt (elAt ts (i - 1)) (elAt ts i) = true) := by
  have := of_decide_eq_true h i hi
  simpa [nmAt] using this
theorem nm_up {rs : List Wr} {ts : List ByteArray} (hw : wrB rs = true) (h : nmB rs ts = true) : ∀ i, i < ts.length → i ≤ wfK rs (elAt ts i)
  | 0, _ => Nat.zero_le _
  | i + 1, hi => by
    have ih := nm_up hw h i (by omega)
    have a := nm_facts h (i := i) (by omega)
    have b := nm_facts h hi
    have na := wfK_name a.1
    have nb := wfK_name b.1
    have lt : sLt (elAt ts i) (elAt ts (i + 1)) = true := by
      rcases b.2 with e | e
      · omega
      · simpa using e
    rcases Nat.lt_or_ge i (wfK rs (elAt ts (i + 1))) with c | c
    · exact c
    · exfalso
      have hlt : sLt (elAt rs (wfK rs (elAt ts i))).n (elAt rs (wfK rs (elAt ts (i + 1)))).n = true := by rw [sLt_eq na, sLt_eq2 nb]; exact lt
      rcases Nat.lt_or_ge (wfK rs (elAt ts (i + 1))) (wfK rs (elAt ts i)) with d | d
      · have := wr_asc hw (wfK rs (elAt ts i) - wfK rs (elAt ts (i + 1)) - 1) (wfK rs (elAt ts (i + 1))) (by omega)
        rw [show wfK rs (elAt ts (i + 1)) + (wfK rs (elAt ts i) - wfK rs (elAt ts (i + 1)) - 1) + 1 = wfK rs (elAt ts i) by omega] at this
        have := sLt_trans hlt this
        rw [sLt_irr] at this; cases this
      · have e : wfK rs (elAt ts i) = wfK rs (elAt ts (i + 1)) := by omega
        rw [e, sLt_irr] at hlt; cases hlt
theorem nm_len {rs : List Wr} {ts : List ByteArray} (hw : wrB rs = true) (h : nmB rs ts = true) : ts.length ≤ rs.length := by
  rcases Nat.lt_or_ge rs.length ts.length with c | c
  · have a := nm_up hw h (ts.length - 1) (by omega)
    have b := nm_facts h (i := ts.length - 1) (by omega)
    omega
  · exact c

end Go.Proofs.Ytglefolkecimabd
