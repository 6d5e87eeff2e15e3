/-
  Rules of warnings as a Lean structure: a name, a rank, the phases in which it is quiet, whether it latches, what it needs. No program here.
  What a name is: 1 to 20 bytes, each a letter, a digit or '-', in plain numbers. No program here.
  Rules of warnings in plain terms: which one has a name, whether they are so, which are quiet in a phase, how loud names are. No program here.
-/
import Derived.Test.YtfehfocfoegbdaaLowPure
import Derived.Test.YtfehfocfoegbdaaRowE
import Derived.Test.YtfehfocfoegbdaaBase

namespace Go.Proofs.Ytfehfocfoegbdaa
open Go

structure Wr where
  n : ByteArray
  r : Int
  q : List Int
  l : Bool
  d : ByteArray
instance : Inhabited Wr := ⟨⟨⟨#[]⟩, 0, [], false, ⟨#[]⟩⟩⟩
/-- The first k phases together. -/
def wrTot (rs : List Wr) : Nat → Nat
  | 0 => 0
  | k + 1 => wrTot rs k + (elAt rs k).q.length
theorem wrTot_mono (rs : List Wr) {k m : Nat} (h : k ≤ m) : wrTot rs k ≤ wrTot rs m := by
  induction m with
  | zero => obtain rfl : k = 0 := by omega
            exact Nat.le_refl _
  | succ m ih =>
    by_cases e : k = m + 1
    · rw [e]; exact Nat.le_refl _
    · exact Nat.le_trans (ih (by omega)) (Nat.le_add_right _ _)

end Go.Proofs.Ytfehfocfoegbdaa

namespace Go.Proofs.Ytfehfocfoegbdaa
open Go

/-- Whether a byte may stand in a name. -/
def byteB (c : Int) : Bool := inB c 97 122 || inB c 65 90 || inB c 48 57 || decide (c = 45)
/-- The byte at a place of a text; 0 where there is none. -/
def byAt (s : ByteArray) (i : Nat) : Int := if h : i < s.size then ((s[i]'h).toNat : Int) else 0
theorem byAt_is {s : ByteArray} {i : Nat} (h : i < s.size) : ((s[i]'h).toNat : Int) = byAt s i := by simp [byAt, h]
theorem byAt_bd (s : ByteArray) (i : Nat) : 0 ≤ byAt s i ∧ byAt s i ≤ 255 := by
  unfold byAt
  split
  · rename_i h
    have := (s[i]'h).toNat_lt
    omega
  · omega
/-- Whether a text is a name. -/
def nameB (s : ByteArray) : Bool := inB s.size 1 20 && decide (∀ i, i < s.size → byteB (byAt s i) = true)
theorem nameB_size {s : ByteArray} (h : inB s.size 1 20 = false) : nameB s = false := by simp [nameB, h]
theorem nameB_at {s : ByteArray} {i : Nat} (hi : i < s.size) (h : byteB (byAt s i) = false) : nameB s = false := by
  have : ¬ (∀ i, i < s.size → byteB (byAt s i) = true) := fun k => by have := k i hi; rw [h] at this; cases this
  simp [nameB, this]
theorem nameB_all {s : ByteArray} (h : ∀ i, i < s.size → byteB (byAt s i) = true) : nameB s = inB s.size 1 20 := by
  have : decide (∀ i, i < s.size → byteB (byAt s i) = true) = true := decide_eq_true h
  unfold nameB
  rw [this, Bool.and_true]
theorem nameB_facts {s : ByteArray} (h : nameB s = true) : 1 ≤ s.size ∧ s.size ≤ 20 := by
  simp [nameB, inB] at h; omega

end Go.Proofs.Ytfehfocfoegbdaa

namespace Go.Proofs.Ytfehfocfoegbdaa
open Go

/-- Texts alike. -/
def sEq (x y : ByteArray) : Bool := x.toList == y.toList
/-- The place of the first rule of a name; as many as there are, where there is none. -/
def wfK (rs : List Wr) (s : ByteArray) : Nat := ((List.range rs.length).find? fun i => sEq (elAt rs i).n s).getD rs.length
def wfI (rs : List Wr) (s : ByteArray) : Int := if wfK rs s < rs.length then (wfK rs s : Int) else -1
theorem wfK_here {rs : List Wr} {s : ByteArray} {k : Nat} (hk : k < rs.length) (h : sEq (elAt rs k).n s = true) (hb : ∀ j, j < k → sEq (elAt rs j).n s = false) : wfK rs s = k := by
  unfold wfK
  have : (List.range rs.length).find? (fun i => sEq (elAt rs i).n s) = some k := by
    rw [List.find?_range_eq_some]
    refine ⟨h, by simpa using hk, fun j hj => ?_⟩
    have := hb j hj
    simp [this]
  rw [this]; rfl
theorem wfK_none {rs : List Wr} {s : ByteArray} (hb : ∀ j, j < rs.length → sEq (elAt rs j).n s = false) : wfK rs s = rs.length := by
  unfold wfK
  have : (List.range rs.length).find? (fun i => sEq (elAt rs i).n s) = none := by
    rw [List.find?_eq_none]
    intro j hj
    have := hb j (by simpa using hj)
    simp [this]
  rw [this]; rfl
theorem wfK_le (rs : List Wr) (s : ByteArray) : wfK rs s ≤ rs.length := by
  unfold wfK
  cases e : (List.range rs.length).find? fun i => sEq (elAt rs i).n s with
  | none => simp
  | some k =>
    rw [List.find?_range_eq_some] at e
    have := List.mem_range.1 e.2.1
    simp; omega
/-- Whether a phase is among the quiet ones. -/
def qtB (q : List Int) (ph : Int) : Bool := decide (∃ i, i < q.length ∧ nth q i = ph)
theorem qtB_yes {q : List Int} {ph : Int} {i : Nat} (h : i < q.length) (e : nth q i = ph) : qtB q ph = true := decide_eq_true ⟨i, h, e⟩
theorem qtB_no {q : List Int} {ph : Int} (h : ∀ i, i < q.length → ¬ nth q i = ph) : qtB q ph = false := decide_eq_false (fun ⟨i, hi, e⟩ => h i hi e)
/-- Texts in their order. -/
def sLt (x y : ByteArray) : Bool := Op.bytesLess x.toList y.toList
/-- Whether what a rule needs is so. -/
def wrDB (rs : List Wr) (i : Nat) : Bool := sEq (elAt rs i).d ⟨#[]⟩ || (decide (wfK rs (elAt rs i).d < rs.length) && decide (¬ wfK rs (elAt rs i).d = i) && sEq (elAt rs (wfK rs (elAt rs i).d)).d ⟨#[]⟩)
/-- Whether a rule by itself, and behind the one ahead, is so. -/
def wrSB (rs : List Wr) (i : Nat) : Bool := nameB (elAt rs i).n && (decide (i = 0) || sLt (elAt rs (i - 1)).n (elAt rs i).n) && inB (elAt rs i).r 1 3 && riseB (elAt rs i).q && allB (elAt rs i).q 0 9
def wrAtB (rs : List Wr) (i : Nat) : Bool := wrSB rs i && wrDB rs i
/-- Whether rules are so. -/
def wrB (rs : List Wr) : Bool := decide (∀ i, i < rs.length → wrAtB rs i = true) && decide (rs.length ≤ 30)
theorem wrB_not {rs : List Wr} {i : Nat} (hi : i < rs.length) (h : wrAtB rs i = false) : wrB rs = false := by
  have : ¬ ∀ i, i < rs.length → wrAtB rs i = true := fun k => by have := k i hi; rw [h] at this; cases this
  simp [wrB, this]
theorem wrB_all {rs : List Wr} (h : ∀ i, i < rs.length → wrAtB rs i = true) : wrB rs = decide (rs.length ≤ 30) := by
  have e : decide (∀ i, i < rs.length → wrAtB rs i = true) = true := decide_eq_true h
  unfold wrB; rw [e, Bool.true_and]
/-- The greatest rank of the first k names. -/
def loK (rs : List Wr) (ts : List ByteArray) : Nat → Int
  | 0 => 0
  | k + 1 => if wfK rs (elAt ts k) < rs.length then max (loK rs ts k) (elAt rs (wfK rs (elAt ts k))).r else loK rs ts k
def loB (rs : List Wr) (ts : List ByteArray) : Bool := wrB rs && decide (ts.length ≤ 30)
def loR (rs : List Wr) (ts : List ByteArray) : Int := if loB rs ts = true then loK rs ts ts.length else 0
/-- The names of the first k rules that are quiet in a phase. -/
def inhK (rs : List Wr) (ph : Int) : Nat → List ByteArray
  | 0 => []
  | k + 1 => if qtB (elAt rs k).q ph = true then inhK rs ph k ++ [(elAt rs k).n] else inhK rs ph k
theorem inhK_len (rs : List Wr) (ph : Int) : ∀ k, (inhK rs ph k).length ≤ k
  | 0 => Nat.le_refl _
  | k + 1 => by
    have := inhK_len rs ph k
    unfold inhK
    split
    · simp; omega
    · omega
def inhB (rs : List Wr) (ph : Int) : Bool := wrB rs && inB ph 0 9
def inhL (rs : List Wr) (ph : Int) : List ByteArray := if inhB rs ph = true then inhK rs ph rs.length else []
theorem wrB_facts {rs : List Wr} (h : wrB rs = true) : (∀ i, i < rs.length → wrAtB rs i = true) ∧ rs.length ≤ 30 := by
  simp only [wrB, Bool.and_eq_true, decide_eq_true_eq] at h
  exact h
theorem wrR_facts {rs : List Wr} (h : wrB rs = true) {i : Nat} (hi : i < rs.length) : 1 ≤ (elAt rs i).r ∧ (elAt rs i).r ≤ 3 := by
  have := (wrB_facts h).1 i hi
  unfold wrAtB wrSB at this
  simp only [Bool.and_eq_true] at this
  exact in_facts this.1.1.1.2
theorem loK_bd {rs : List Wr} (h : wrB rs = true) (ts : List ByteArray) : ∀ k, 0 ≤ loK rs ts k ∧ loK rs ts k ≤ 3
  | 0 => by simp [loK]
  | k + 1 => by
    have ih := loK_bd h ts k
    unfold loK
    split
    · rename_i hk
      have := wrR_facts h hk
      omega
    · exact ih
theorem rise_ge {q : List Int} (h : riseB q = true) (h0 : allB q 0 9 = true) : ∀ i, i < q.length → (i : Int) ≤ nth q i
  | 0, hi => by
    have := in_facts (of_decide_eq_true h0 0 hi)
    omega
  | i + 1, hi => by
    have ih := rise_ge h h0 i (by omega)
    have := of_decide_eq_true h i (by omega)
    omega
theorem wrQ_len {rs : List Wr} (h : wrB rs = true) {i : Nat} (hi : i < rs.length) : (elAt rs i).q.length ≤ 10 := by
  have := (wrB_facts h).1 i hi
  unfold wrAtB wrSB at this
  simp only [Bool.and_eq_true] at this
  have h1 := this.1.1.2
  have h2 := this.1.2
  rcases Nat.lt_or_ge 10 (elAt rs i).q.length with c | c
  · have a := rise_ge h1 h2 10 c
    have b := in_facts (of_decide_eq_true h2 10 c)
    omega
  · exact c
theorem inhL_small (rs : List Wr) (ph : Int) : (inhL rs ph).length ≤ 1048576 := by
  unfold inhL
  split
  · rename_i h
    simp only [inhB, Bool.and_eq_true] at h
    have := (wrB_facts h.1).2
    have := inhK_len rs ph rs.length
    omega
  · simp
/-- Whether a name is among names. -/
def hasB (ts : List ByteArray) (s : ByteArray) : Bool := decide (∃ i, i < ts.length ∧ sEq (elAt ts i) s = true)
theorem hasB_yes {ts : List ByteArray} {s : ByteArray} {i : Nat} (h : i < ts.length) (e : sEq (elAt ts i) s = true) : hasB ts s = true := decide_eq_true ⟨i, h, e⟩
theorem hasB_no {ts : List ByteArray} {s : ByteArray} (h : ∀ i, i < ts.length → sEq (elAt ts i) s = false) : hasB ts s = false := decide_eq_false (fun ⟨i, hi, e⟩ => by rw [h i hi] at e; cases e)
/-- Whether a name of a list is a rule's, and behind the one ahead. -/
def nmAt (rs : List Wr) (ts : List ByteArray) (i : Nat) : Bool := decide (wfK rs (elAt ts i) < rs.length) && (decide (i = 0) || sLt (elAt ts (i - 1)) (elAt ts i))
/-- Whether a list is of ascending names of rules. -/
def nmB (rs : List Wr) (ts : List ByteArray) : Bool := decide (∀ i, i < ts.length → nmAt rs ts i = true)
theorem nmB_not {rs : List Wr} {ts : List ByteArray} {i : Nat} (hi : i < ts.length) (h : nmAt rs ts i = false) : nmB rs ts = false := decide_eq_false (fun k => by have := k i hi; rw [h] at this; cases this)
theorem nmB_all {rs : List Wr} {ts : List ByteArray} (h : ∀ i, i < ts.length → nmAt rs ts i = true) : nmB rs ts = true := decide_eq_true h

end Go.Proofs.Ytfehfocfoegbdaa
