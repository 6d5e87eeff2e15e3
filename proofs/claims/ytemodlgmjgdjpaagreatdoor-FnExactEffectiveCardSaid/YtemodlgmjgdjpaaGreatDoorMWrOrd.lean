/-
  Names in their order: ascending names of rules are no more than there are rules. No program here.
  Rules in a book by name: whether they are so, in the program's own way, is what the model says. No program here.
-/
import Derived.Test.YtemodlgmjgdjpaaGreatDoorMBel
import Derived.Sort.Walk0

namespace Go.Proofs.YtemodlgmjgdjpaaGreatDoor
open Go

theorem sLt_iff {x y : ByteArray} : sLt x y = true ↔ x.toList < y.toList := by
  unfold sLt
  rw [bytesLess_eq]
  simp
theorem sLt_trans {x y z : ByteArray} (h : sLt x y = true) (k : sLt y z = true) : sLt x z = true := by
  rw [sLt_iff] at *
  exact List.lt_trans h k
theorem sLt_irr (x : ByteArray) : sLt x x = false := by
  cases e : sLt x x with
  | false => rfl
  | true => rw [sLt_iff] at e; exact absurd e (List.lt_irrefl _)
theorem sEq_iff {x y : ByteArray} : sEq x y = true ↔ x.toList = y.toList := by simp [sEq]
theorem sLt_eq {x y z : ByteArray} (h : sEq x y = true) : sLt x z = sLt y z := by unfold sLt; rw [sEq_iff.1 h]
theorem sLt_eq2 {x y z : ByteArray} (h : sEq x y = true) : sLt z x = sLt z y := by unfold sLt; rw [sEq_iff.1 h]
/-- The rule that is found has the name. -/
theorem wfK_name {rs : List Wr} {s : ByteArray} (h : wfK rs s < rs.length) : sEq (elAt rs (wfK rs s)).n s = true := by
  unfold wfK at h ⊢
  cases e : (List.range rs.length).find? fun i => sEq (elAt rs i).n s with
  | none => rw [e] at h; simp at h
  | some k =>
    rw [List.find?_range_eq_some] at e
    simpa using e.1
theorem wr_up {rs : List Wr} (h : wrB rs = true) {i : Nat} (hi : i + 1 < rs.length) : sLt (elAt rs i).n (elAt rs (i + 1)).n = true := by
  have := (wrB_facts h).1 (i + 1) hi
  unfold wrAtB wrSB at this
  simp only [Bool.and_eq_true, Bool.or_eq_true, decide_eq_true_eq] at this
  have k := this.1.1.1.1.2
  rcases k with k | k
  · omega
  · simpa using k
theorem wr_asc {rs : List Wr} (h : wrB rs = true) : ∀ (m i : Nat), i + m + 1 < rs.length → sLt (elAt rs i).n (elAt rs (i + m + 1)).n = true
  | 0, i, hi => wr_up h hi
  | m + 1, i, hi => sLt_trans (wr_asc h m i (by omega)) (wr_up h (i := i + m + 1) hi)
theorem nm_facts {rs : List Wr} {ts : List ByteArray} (h : nmB rs ts = true) {i : Nat} (hi : i < ts.length) : wfK rs (elAt ts i) < rs.length ∧ (i = 0 ∨ sLt (elAt ts (i - 1)) (elAt ts i) = true) := by
  have := of_decide_eq_true h i hi
  simpa [nmAt] using this
theorem nm_up {rs : List Wr} {ts : List ByteArray} (hw : wrB rs = true) (h : nmB rs ts = true) : ∀ i, i < ts.length → i ≤ wfK rs (elAt ts i)
  | 0, _ => Nat.zero_le _
  | i + 1, hi => by
    have ih := nm_up hw h i (by omega)
    have a := nm_facts h (i := i) (by omega)
    have b := nm_facts h hi
    have na := wfK_name a.1
    have nb := wfK_name b.1
    have lt : sLt (elAt ts i) (elAt ts (i + 1)) = true := by
      rcases b.2 with e | e
      · omega
      · simpa using e
    rcases Nat.lt_or_ge i (wfK rs (elAt ts (i + 1))) with c | c
    · exact c
    · exfalso
      have hlt : sLt (elAt rs (wfK rs (elAt ts i))).n (elAt rs (wfK rs (elAt ts (i + 1)))).n = true := by rw [sLt_eq na, sLt_eq2 nb]; exact lt
      rcases Nat.lt_or_ge (wfK rs (elAt ts (i + 1))) (wfK rs (elAt ts i)) with d | d
      · have := wr_asc hw (wfK rs (elAt ts i) - wfK rs (elAt ts (i + 1)) - 1) (wfK rs (elAt ts (i + 1))) (by omega)
        rw [show wfK rs (elAt ts (i + 1)) + (wfK rs (elAt ts i) - wfK rs (elAt ts (i + 1)) - 1) + 1 = wfK rs (elAt ts i) by omega] at this
        have := sLt_trans hlt this
        rw [sLt_irr] at this; cases this
      · have e : wfK rs (elAt ts i) = wfK rs (elAt ts (i + 1)) := by omega
        rw [e, sLt_irr] at hlt; cases hlt
theorem nm_len {rs : List Wr} {ts : List ByteArray} (hw : wrB rs = true) (h : nmB rs ts = true) : ts.length ≤ rs.length := by
  rcases Nat.lt_or_ge rs.length ts.length with c | c
  · have a := nm_up hw h (ts.length - 1) (by omega)
    have b := nm_facts h (i := ts.length - 1) (by omega)
    omega
  · exact c

end Go.Proofs.YtemodlgmjgdjpaaGreatDoor

namespace Go.Proofs.YtemodlgmjgdjpaaGreatDoor
open Go

theorem sEq_eq {x y : ByteArray} : sEq x y = true ↔ x = y := by
  rw [sEq_iff, ByteArray.toList_eq, ByteArray.toList_eq]
  exact ⟨fun h => ByteArray.ext (Array.ext' h), fun h => by rw [h]⟩
theorem sEq_self (x : ByteArray) : sEq x x = true := sEq_eq.2 rfl
theorem sLt_or (x y : ByteArray) : (sLt y x || sEq y x) = !sLt x y := by
  rw [Bool.eq_iff_iff]
  simp only [Bool.or_eq_true, Bool.not_eq_true', sLt_iff, sEq_iff]
  rw [← Bool.not_eq_true, sLt_iff, List.not_lt]
  constructor
  · rintro (h | h)
    · exact List.le_of_lt h
    · rw [h]; exact List.le_refl _
  · intro h
    rcases List.le_iff_lt_or_eq.1 h with k | k
    · exact .inl k
    · exact .inr k
/-- Texts that rise. -/
def riseS (ts : List ByteArray) : Bool := decide (∀ i, i < ts.length - 1 → sLt (elAt ts i) (elAt ts (i + 1)) = true)
theorem riseS_true {ts : List ByteArray} (h : ∀ i, i + 1 < ts.length → sLt (elAt ts i) (elAt ts (i + 1)) = true) : riseS ts = true := decide_eq_true (fun i hi => h i (by omega))
theorem riseS_false {ts : List ByteArray} {i : Nat} (hi : i + 1 < ts.length) (h : sLt (elAt ts i) (elAt ts (i + 1)) = false) : riseS ts = false := decide_eq_false (fun k => by have := k i (by omega); rw [h] at this; cases this)
theorem riseS_at {ts : List ByteArray} (h : riseS ts = true) {i : Nat} (hi : i + 1 < ts.length) : sLt (elAt ts i) (elAt ts (i + 1)) = true := of_decide_eq_true h i (by omega)
/-- The names of rules. -/
def wrN (rs : List Wr) : List ByteArray := rs.map (·.n)
theorem wrN_len (rs : List Wr) : (wrN rs).length = rs.length := by simp [wrN]
theorem wrN_at {rs : List Wr} {i : Nat} (hi : i < rs.length) : elAt (wrN rs) i = (elAt rs i).n := by
  unfold elAt wrN
  simp [hi]
theorem wrN_take {rs : List Wr} {k : Nat} (hk : k < rs.length) : wrN (rs.take (k + 1)) = wrN (rs.take k) ++ [(elAt rs k).n] := by
  have e : rs.take (k + 1) = rs.take k ++ [elAt rs k] := by
    unfold elAt
    rw [List.take_succ_eq_append_getElem hk]
    simp [hk]
  rw [e]
  simp [wrN]
/-- Whether a rule by itself is so. -/
def wrSo (p : Wr) : Bool := nameB p.n && inB p.r 1 3 && riseB p.q && allB p.q 0 9
/-- Whether what a rule needs is there and needs none. -/
def ndB (rs : List Wr) (i : Nat) : Bool := sEq (elAt rs i).d ⟨#[]⟩ || (decide (wfK rs (elAt rs i).d < rs.length) && sEq (elAt rs (wfK rs (elAt rs i).d)).d ⟨#[]⟩)
theorem wrSB_is {rs : List Wr} {i : Nat} : wrSB rs i = (wrSo (elAt rs i) && (decide (i = 0) || sLt (elAt rs (i - 1)).n (elAt rs i).n)) := by
  unfold wrSB wrSo
  cases nameB (elAt rs i).n <;> cases (decide (i = 0) || sLt (elAt rs (i - 1)).n (elAt rs i).n) <;> simp
theorem ndB_is (rs : List Wr) (i : Nat) (_hi : i < rs.length) : ndB rs i = wrDB rs i := by
  unfold ndB wrDB
  cases e : sEq (elAt rs i).d ⟨#[]⟩ with
  | true => rfl
  | false =>
    simp only [Bool.false_or]
    by_cases c : wfK rs (elAt rs i).d = i
    · rw [c, e]; simp
    · simp [c]
theorem wrB_long {rs : List Wr} (h : ¬ rs.length ≤ 30) : wrB rs = false := by simp [wrB, h]
theorem wrB_rise {rs : List Wr} (h : riseS (wrN rs) = false) : wrB rs = false := by
  have : ¬ ∀ i, i < (wrN rs).length - 1 → sLt (elAt (wrN rs) i) (elAt (wrN rs) (i + 1)) = true := of_decide_eq_false h
  cases e : wrB rs with
  | false => rfl
  | true =>
    exact absurd (fun i hi => by rw [wrN_len] at hi; rw [wrN_at (by omega), wrN_at (by omega)]; exact wr_up e (by omega)) this
theorem wrB_so {rs : List Wr} {i : Nat} (hi : i < rs.length) (h : wrSo (elAt rs i) = false) : wrB rs = false := wrB_not hi (by unfold wrAtB; rw [wrSB_is, h]; rfl)
theorem wrB_nd {rs : List Wr} {i : Nat} (hi : i < rs.length) (h : ndB rs i = false) : wrB rs = false := wrB_not hi (by unfold wrAtB; rw [← ndB_is rs i hi, h, Bool.and_false])
theorem wrB_yes {rs : List Wr} (h0 : rs.length ≤ 30) (h1 : riseS (wrN rs) = true) (h2 : ∀ i, i < rs.length → wrSo (elAt rs i) = true) (h3 : ∀ i, i < rs.length → ndB rs i = true) : wrB rs = true := by
  rw [wrB_all (fun i hi => ?_)]
  · exact decide_eq_true h0
  · unfold wrAtB
    rw [wrSB_is, h2 i hi, ← ndB_is rs i hi, h3 i hi]
    simp only [Bool.true_and, Bool.and_true, Bool.or_eq_true, decide_eq_true_eq]
    by_cases c : i = 0
    · exact .inl c
    · right
      have := riseS_at h1 (i := i - 1) (by rw [wrN_len]; omega)
      rw [wrN_at (by omega), show i - 1 + 1 = i by omega, wrN_at hi] at this
      exact this
/-- Names that rise are apart. -/
theorem riseS_lt {ts : List ByteArray} (h : riseS ts = true) : ∀ (m i : Nat), i + m + 1 < ts.length → sLt (elAt ts i) (elAt ts (i + m + 1)) = true
  | 0, i, hi => riseS_at h hi
  | m + 1, i, hi => sLt_trans (riseS_lt h m i (by omega)) (riseS_at h (i := i + m + 1) hi)
theorem riseS_ne {ts : List ByteArray} (h : riseS ts = true) {i j : Nat} (hi : i < ts.length) (hj : j < ts.length) (e : elAt ts i = elAt ts j) : i = j := by
  rcases Nat.lt_trichotomy i j with c | c | c
  · have := riseS_lt h (j - i - 1) i (by omega)
    rw [show i + (j - i - 1) + 1 = j by omega, e, sLt_irr] at this; cases this
  · exact c
  · have := riseS_lt h (i - j - 1) j (by omega)
    rw [show j + (i - j - 1) + 1 = i by omega, e, sLt_irr] at this; cases this
/-- The place of a rule, found by its name. -/
theorem wfK_at {rs : List Wr} (h : riseS (wrN rs) = true) {i : Nat} (hi : i < rs.length) : wfK rs (elAt rs i).n = i := by
  refine wfK_here hi (sEq_self _) (fun j hj => ?_)
  cases e : sEq (elAt rs j).n (elAt rs i).n with
  | false => rfl
  | true =>
    have e := sEq_eq.1 e
    rw [← wrN_at (show j < rs.length by omega), ← wrN_at hi] at e
    have := riseS_ne h (by rw [wrN_len]; omega) (by rw [wrN_len]; omega) e
    omega
theorem wfK_has {rs : List Wr} {s : ByteArray} {i : Nat} (hi : i < rs.length) (e : (elAt rs i).n = s) : wfK rs s < rs.length := by
  rcases Nat.lt_or_ge (wfK rs s) rs.length with c | c
  · exact c
  · exfalso
    unfold wfK at c
    cases f : (List.range rs.length).find? fun i => sEq (elAt rs i).n s with
    | none =>
      rw [List.find?_eq_none] at f
      have := f i (by simpa using hi)
      rw [e, sEq_self] at this
      exact this rfl
    | some k =>
      rw [List.find?_range_eq_some] at f
      rw [List.find?_range_eq_some.2 f] at c
      have := List.mem_range.1 f.2.1
      simp at c; omega
theorem wfK_nm {rs : List Wr} {s : ByteArray} (h : wfK rs s < rs.length) : (elAt rs (wfK rs s)).n = s := sEq_eq.1 (wfK_name h)

end Go.Proofs.YtemodlgmjgdjpaaGreatDoor
