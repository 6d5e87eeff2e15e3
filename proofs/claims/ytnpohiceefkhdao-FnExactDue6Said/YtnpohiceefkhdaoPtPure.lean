/-
  Parts with a name and three numbers, as lists and as maps by name. No program here.
-/
import Derived.Test.YtnpohiceefkhdaoDuePure
import Derived.Test.YtnpohiceefkhdaoRowE
import Derived.Maps.OwnSet
import Derived.Maps.RangeWalk
import Derived.Sort.KeysCollected
namespace Go.Proofs.Ytnpohiceefkhdao
open Go.RowKit Go.Maps

/-- A name and three numbers. -/
structure Pt where
  n : ByteArray
  a : Int
  b : Int
  c : Int
instance : Inhabited Pt := ⟨⟨⟨#[]⟩, 0, 0, 0⟩⟩
/-- Its cells. -/
def ptC (p : Pt) : Nat → Value
  | 0 => .string p.n
  | 1 => .int .i64 p.a
  | 2 => .int .i64 p.b
  | _ => .int .i64 p.c
/-- Names that can be read, numbers of 64 bits. -/
def ptFit (p : Pt) : Prop := p.n.size ≤ 9223372036854775807 ∧ (-9223372036854775808 ≤ p.a ∧ p.a ≤ 9223372036854775807) ∧ (-9223372036854775808 ≤ p.b ∧ p.b ≤ 9223372036854775807) ∧ (-9223372036854775808 ≤ p.c ∧ p.c ≤ 9223372036854775807)

/-- How three numbers read as a datum. -/
def cntD (a b c : Int) : DataW Unit := .agg [.lit (.int .i64 a), .lit (.int .i64 b), .lit (.int .i64 c)]
def cntR : Value → Option (DataW Unit × List MemPlace)
  | .agg ⟨[.int .i64 a, .int .i64 b, .int .i64 c]⟩ => some (cntD a b c, [])
  | _ => none
theorem cntR_mk (a b c : Int) : cntR (.agg #[.int .i64 a, .int .i64 b, .int .i64 c]) = some (cntD a b c, []) := rfl
theorem cntR_inv {v : Value} {y : DataW Unit × List MemPlace} (h : cntR v = some y) : ∃ p : Int × Int × Int, v = .agg #[.int .i64 p.1, .int .i64 p.2.1, .int .i64 p.2.2] ∧ y = (cntD p.1 p.2.1 p.2.2, []) := by
  unfold cntR at h
  split at h
  · simp only [Option.some.injEq] at h
    exact ⟨(_, _, _), rfl, h.symm⟩
  · cases h
theorem cntD_inj {a b c a' b' c' : Int} (h : cntD a b c = cntD a' b' c') : a = a' ∧ b = b' ∧ c = c' := by
  simpa [cntD] using h

/-- A name as a key. -/
def keyL (s : ByteArray) : Lit := .string s.data.toList
theorem keyL_inj {s t : ByteArray} (h : keyL s = keyL t) : s = t := by
  simp only [keyL, Lit.string.injEq] at h
  exact ByteArray.ext (Array.ext' h)
theorem keyL_isKey (s : ByteArray) : WideAt.IsKeyLit (keyL s) := trivial

/-- The map of the first parts. -/
def mapTo (ps : List Pt) : Nat → DataW Unit
  | 0 => .map []
  | k + 1 => (mapTo ps k).put (keyL (elAt ps k).n) (cntD (elAt ps k).a (elAt ps k).b (elAt ps k).c)
theorem mapTo_isMap (ps : List Pt) (k : Nat) : IsMap (mapTo ps k) := by
  cases k with
  | zero => exact isMap_empty
  | succ k => induction k with
    | zero => exact isMap_empty.put _ _
    | succ k ih => exact ih.put _ _
/-- Whether one of the first parts has the name. -/
def hasN (ps : List Pt) (k : Nat) (s : ByteArray) : Bool := decide (∃ j, j < k ∧ (elAt ps j).n = s)
theorem has_mapTo (ps : List Pt) (k : Nat) (s : ByteArray) : Maps.has (mapTo ps k) (keyL s) = hasN ps k s := by
  induction k with
  | zero =>
    have : hasN ps 0 s = false := by simp [hasN]
    rw [this]; rfl
  | succ k ih =>
    simp only [mapTo]
    by_cases h : (elAt ps k).n = s
    · rw [h, has_put_same (mapTo_isMap ps k) (keyL_isKey s)]
      have : hasN ps (k + 1) s = true := by simp only [hasN, decide_eq_true_eq]; exact ⟨k, by omega, h⟩
      rw [this]
    · rw [has_put_other (fun e => h (keyL_inj e).symm), ih]
      unfold hasN
      congr 1
      refine propext ⟨fun ⟨j, hj, e⟩ => ⟨j, by omega, e⟩, fun ⟨j, hj, e⟩ => ?_⟩
      rcases Nat.lt_succ_iff_lt_or_eq.1 hj with h' | h'
      · exact ⟨j, h', e⟩
      · subst h'; exact absurd e h
/-- No two of the first parts have one name. -/
def apart (ps : List Pt) (k : Nat) : Prop := ∀ i j, i < j → j < k → (elAt ps i).n ≠ (elAt ps j).n
theorem at_mapTo (ps : List Pt) (k : Nat) (h : apart ps k) (j : Nat) (hj : j < k) (z : DataW Unit) : (mapTo ps k).atKey (keyL (elAt ps j).n) z = cntD (elAt ps j).a (elAt ps j).b (elAt ps j).c := by
  induction k with
  | zero => omega
  | succ k ih =>
    simp only [mapTo]
    rcases Nat.lt_succ_iff_lt_or_eq.1 hj with h' | h'
    · rw [atKey_put_other (fun e => h j k h' (by omega) (keyL_inj e))]
      exact ih (fun a b hab hb => h a b hab (by omega)) h'
    · subst h'
      rw [atKey_put_same (mapTo_isMap ps j) (keyL_isKey _)]
theorem not_at_mapTo (ps : List Pt) (k : Nat) (s : ByteArray) (h : hasN ps k s = false) (z : DataW Unit) : (mapTo ps k).atKey (keyL s) z = z :=
  atKey_of_not_has (by rw [has_mapTo]; exact h) z

/-- Whether the part at a place is so: no earlier one has its name, the name is one, the numbers are in 0 .. M. -/
def okAt (ps : List Pt) (M : Int) (k : Nat) : Bool := !hasN ps k (elAt ps k).n && nameB (elAt ps k).n && in3 (elAt ps k).a (elAt ps k).b (elAt ps k).c M
/-- Whether the list is so. -/
def okB (ps : List Pt) (M : Int) : Bool := decide (ps.length ≤ 30) && decide (∀ k, k < ps.length → okAt ps M k = true)
theorem okB_long {ps : List Pt} {M : Int} (h : 30 < ps.length) : okB ps M = false := by
  have : ¬ ps.length ≤ 30 := by omega
  simp [okB, this]
theorem okB_at {ps : List Pt} {M : Int} {k : Nat} (hk : k < ps.length) (h : okAt ps M k = false) : okB ps M = false := by
  have : ¬ (∀ k, k < ps.length → okAt ps M k = true) := fun f => by have := f k hk; rw [h] at this; cases this
  unfold okB
  rw [decide_eq_false this, Bool.and_false]
theorem okB_all {ps : List Pt} {M : Int} (hl : ps.length ≤ 30) (h : ∀ k, k < ps.length → okAt ps M k = true) : okB ps M = true := by
  unfold okB
  rw [decide_eq_true h, decide_eq_true hl]; rfl
theorem okB_facts {ps : List Pt} {M : Int} (h : okB ps M = true) : ps.length ≤ 30 ∧ ∀ k, k < ps.length → okAt ps M k = true := by
  unfold okB at h
  simp only [Bool.and_eq_true, decide_eq_true_eq] at h
  exact h
theorem okAt_facts {ps : List Pt} {M : Int} {k : Nat} (h : okAt ps M k = true) : hasN ps k (elAt ps k).n = false ∧ nameB (elAt ps k).n = true ∧ in3 (elAt ps k).a (elAt ps k).b (elAt ps k).c M = true := by
  simp only [okAt, Bool.and_eq_true, Bool.not_eq_true'] at h
  exact ⟨h.1.1, h.1.2, h.2⟩
theorem okB_apart {ps : List Pt} {M : Int} (h : okB ps M = true) : apart ps ps.length := by
  intro i j hij hj e
  have := (okAt_facts ((okB_facts h).2 j hj)).1
  simp only [hasN, decide_eq_false_iff_not] at this
  exact this ⟨i, hij, e⟩

theorem ownsMap_below {P : Program} {k : TypeId} {R : Value → Option (DataW Unit × List MemPlace)} {w w' : World} {b n : Nat} {D : DataW Unit} (h : w.ownsMap P k R b n D) (hb : Below w.heap.size w w') : w'.ownsMap P k R b n D := by
  obtain ⟨es, clock, h1, h2⟩ := h
  have hlt : b < w.heap.size := (Array.getElem?_eq_some_iff.1 h1).1
  exact ⟨es, clock, (hb.block b hlt).trans h1, h2⟩

end Go.Proofs.Ytnpohiceefkhdao
