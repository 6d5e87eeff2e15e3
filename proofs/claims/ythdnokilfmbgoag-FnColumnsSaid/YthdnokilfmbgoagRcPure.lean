/-
  Records in plain numbers: when rows are right, a column, its events, where two records differ. No program here.
-/
import Derived.Test.YthdnokilfmbgoagLowPure
import Derived.Test.YthdnokilfmbgoagRowS
namespace Go.Proofs.Ythdnokilfmbgoag

/-- A row is as wide as the first, of 1 to 8 values, each in its bounds. -/
def rwB (zss : List (List Int)) (i : Nat) : Bool := (((nthS zss i).length : Int) == ((nthS zss 0).length : Int)) && inB (nthS zss i).length 1 8 && allB (nthS zss i) (-30000) 30000
def rcAa (zss : List (List Int)) : Bool := decide (∀ i, i < zss.length → rwB zss i = true)
def rcB (zss : List (List Int)) : Bool := rcAa zss && decide (zss.length ≤ 200)
theorem rcA_true {zss : List (List Int)} (h : ∀ i, i < zss.length → rwB zss i = true) : rcAa zss = true := by simp only [rcAa, decide_eq_true_eq]; exact h
theorem rcB_no {zss : List (List Int)} {j : Nat} (hj : j < zss.length) (h : rwB zss j = false) : rcB zss = false := by
  have : rcAa zss = false := by simp only [rcAa, decide_eq_false_iff_not]; intro k; have := k j hj; rw [h] at this; cases this
  rw [rcB, this]; rfl
theorem rcB_long {zss : List (List Int)} (h : ¬ zss.length ≤ 200) : rcB zss = false := by
  rw [rcB, show decide (zss.length ≤ 200) = false by simpa using h, Bool.and_false]
theorem rcB_yes {zss : List (List Int)} (h : ∀ i, i < zss.length → rwB zss i = true) (hl : zss.length ≤ 200) : rcB zss = true := by
  rw [rcB, rcA_true h, show decide (zss.length ≤ 200) = true by simpa using hl]; rfl
theorem rcB_facts {zss : List (List Int)} (h : rcB zss = true) : zss.length ≤ 200 ∧ ∀ i, i < zss.length → (nthS zss i).length = (nthS zss 0).length ∧ 1 ≤ (nthS zss i).length ∧ (nthS zss i).length ≤ 8 ∧ ∀ k, k < (nthS zss i).length → -30000 ≤ nth (nthS zss i) k ∧ nth (nthS zss i) k ≤ 30000 := by
  rw [rcB, Bool.and_eq_true, rcAa, decide_eq_true_eq, decide_eq_true_eq] at h
  refine ⟨h.2, fun i hi => ?_⟩
  have := h.1 i hi
  rw [rwB, Bool.and_eq_true, Bool.and_eq_true] at this
  obtain ⟨⟨h1, h2⟩, h3⟩ := this
  simp only [inB, decide_eq_true_eq] at h2
  simp only [beq_iff_eq] at h1
  simp only [allB, decide_eq_true_eq, inB] at h3
  exact ⟨by omega, by omega, by omega, fun k hk => by have := h3 k hk; omega⟩
/-- How wide rows are. -/
def wdN (zss : List (List Int)) : Nat := (nthS zss 0).length
theorem wdN_nil {zss : List (List Int)} (h : zss.length = 0) : wdN zss = 0 := by
  have : zss = [] := List.length_eq_zero_iff.1 h
  subst this; rfl

/-! A column. -/
def coB (zss : List (List Int)) (a : Int) : Bool := rcB zss && (decide (0 < zss.length) && inB a 0 ((wdN zss : Int) - 1))
def coK (zss : List (List Int)) (a : Int) (k : Nat) : List Int := (List.range k).map fun i => nth (nthS zss i) a.toNat
def coL (zss : List (List Int)) (a : Int) : List Int := if coB zss a = true then coK zss a zss.length else []
theorem coK_len (zss : List (List Int)) (a : Int) (k : Nat) : (coK zss a k).length = k := by simp [coK]
theorem coK_succ (zss : List (List Int)) (a : Int) (k : Nat) : coK zss a (k + 1) = coK zss a k ++ [nth (nthS zss k) a.toNat] := by simp [coK, List.range_succ]
theorem coK_at (zss : List (List Int)) (a : Int) {k i : Nat} (h : i < k) : nth (coK zss a k) i = nth (nthS zss i) a.toNat := by simp [nth, coK, h]
theorem coL_len (zss : List (List Int)) (a : Int) : (coL zss a).length ≤ 200 := by
  unfold coL
  split
  · rename_i h; rw [coK_len]; rw [coB, Bool.and_eq_true] at h; exact (rcB_facts h.1).1
  · simp
theorem coB_facts {zss : List (List Int)} {a : Int} (h : coB zss a = true) : rcB zss = true ∧ 0 < zss.length ∧ 0 ≤ a ∧ a < wdN zss := by
  rw [coB, Bool.and_eq_true, Bool.and_eq_true, decide_eq_true_eq] at h
  have := h.2.2
  simp only [inB, decide_eq_true_eq] at this
  exact ⟨h.1, h.2.1, by omega, by omega⟩
theorem coL_in (zss : List (List Int)) (a : Int) : ∀ i, i < (coL zss a).length → -30000 ≤ nth (coL zss a) i ∧ nth (coL zss a) i ≤ 30000 := by
  unfold coL
  split
  · rename_i h
    intro i hi
    rw [coK_len] at hi
    rw [coK_at _ _ hi]
    have f := coB_facts h
    have g := (rcB_facts f.1).2 i hi
    exact g.2.2.2 _ (by have := g.1; unfold wdN at f; omega)
  · intro i hi; simp at hi

/-! Its events. -/
def evI (L : List Int) (m : Int) (i : Nat) : Bool := decide (m < nth L i) && (decide (i = 0) || decide (nth L (i - 1) ≤ m))
def evK (L : List Int) (m : Int) (k : Nat) : List Int := ((List.range k).filter (evI L m)).map fun (i : Nat) => (i : Int)
theorem evK_succ (L : List Int) (m : Int) (k : Nat) : evK L m (k + 1) = if evI L m k = true then evK L m k ++ [(k : Int)] else evK L m k := by
  unfold evK
  rw [List.range_succ, List.filter_append, List.map_append]
  by_cases h : evI L m k = true <;> simp [h]
theorem evK_len (L : List Int) (m : Int) (k : Nat) : (evK L m k).length ≤ k := by
  unfold evK
  rw [List.length_map]
  exact Nat.le_trans (List.length_filter_le _ _) (by simp)

/-! Where two records differ. -/
def unI (a b : List Int) (k : Nat) : Bool := decide (a.length ≤ k) || decide (b.length ≤ k) || decide (nth a k ≠ nth b k)
def unF (a b : List Int) : Option Nat := (List.range (max a.length b.length)).find? (unI a b)
def dfBo (A B : List (List Int)) : Bool := rcB A && rcB B
def dfF (A B : List (List Int)) : Option Nat := (List.range (max A.length B.length)).find? fun i => (unF (nthS A i) (nthS B i)).isSome
def dfR (A B : List (List Int)) : Int := if dfBo A B = false then -2 else match dfF A B with | none => -1 | some i => i
def dfCo (A B : List (List Int)) : Int := if dfBo A B = false then -2 else match dfF A B with | none => -1 | some i => ((unF (nthS A i) (nthS B i)).getD 0 : Nat)
def dfO (A B : List (List Int)) : Bool := if dfBo A B = false then false else (dfF A B).isNone

end Go.Proofs.Ythdnokilfmbgoag
