/-
  Where two records differ first, in plain numbers: what is found. No program here.
-/
import Derived.Test.YthdnokilfmbgobdRcPure
namespace Go.Proofs.Ythdnokilfmbgobd

theorem rng_at {p : Nat → Bool} {n k : Nat} (hk : k < n) (h : p k = true) (hb : ∀ j, j < k → p j = false) : (List.range n).find? p = some k := by
  rw [List.find?_range_eq_some]
  exact ⟨h, by simpa using hk, fun j hj => by rw [hb j hj]; rfl⟩
theorem rng_none {p : Nat → Bool} {n : Nat} (hb : ∀ j, j < n → p j = false) : (List.range n).find? p = none := by
  rw [List.find?_eq_none]
  intro j hj
  rw [hb j (by simpa using hj)]; simp
/-- The first unlike column, -1 where there is none. -/
def unR (a b : List Int) : Int := match unF a b with | none => -1 | some k => (k : Int)
theorem unR_at {a b : List Int} {k : Nat} (hk : k < max a.length b.length) (h : unI a b k = true) (hb : ∀ j, j < k → unI a b j = false) : unF a b = some k := rng_at hk h hb
theorem unR_no {a b : List Int} (hb : ∀ j, j < max a.length b.length → unI a b j = false) : unF a b = none := rng_none hb
theorem df_no {A B : List (List Int)} (h : (rcB A && rcB B) = false) : dfR A B = -2 ∧ dfCo A B = -2 ∧ dfO A B = false := by
  simp [dfR, dfCo, dfO, dfBo, h]
theorem df_here {A B : List (List Int)} {i k : Nat} (h : (rcB A && rcB B) = true) (hi : i < max A.length B.length) (hk : unF (nthS A i) (nthS B i) = some k) (hb : ∀ j, j < i → unF (nthS A j) (nthS B j) = none) : dfR A B = i ∧ dfCo A B = k ∧ dfO A B = false := by
  have : dfF A B = some i := rng_at hi (by rw [hk]; rfl) (fun j hj => by rw [hb j hj]; rfl)
  simp [dfR, dfCo, dfO, dfBo, h, this, hk]
theorem df_none {A B : List (List Int)} (h : (rcB A && rcB B) = true) (hb : ∀ j, j < max A.length B.length → unF (nthS A j) (nthS B j) = none) : dfR A B = -1 ∧ dfCo A B = -1 ∧ dfO A B = true := by
  have : dfF A B = none := rng_none (fun j hj => by rw [hb j hj]; rfl)
  simp [dfR, dfCo, dfO, dfBo, h, this]
theorem nthS_out {A : List (List Int)} {i : Nat} (h : A.length ≤ i) : nthS A i = [] := by simp [nthS, h]
/-- A row that one of them lacks differs at its first column. -/
theorem un_lack {A B : List (List Int)} {i : Nat} (h : (rcB A && rcB B) = true) (hi : i < max A.length B.length) (hl : A.length ≤ i ∨ B.length ≤ i) : unF (nthS A i) (nthS B i) = some 0 := by
  rw [Bool.and_eq_true] at h
  have hA := (rcB_facts h.1).2
  have hB := (rcB_facts h.2).2
  rcases hl with hl | hl
  · have hb : i < B.length := by omega
    have := hB i hb
    refine unR_at (by omega) ?_ (fun j hj => by omega)
    rw [nthS_out hl]; simp [unI]
  · have ha : i < A.length := by omega
    have := hA i ha
    refine unR_at (by omega) ?_ (fun j hj => by omega)
    rw [nthS_out hl]; simp [unI]
theorem unI_a {a b : List Int} {k : Nat} (h : a.length ≤ k) : unI a b k = true := by simp [unI, h]
theorem unI_b {a b : List Int} {k : Nat} (h : b.length ≤ k) : unI a b k = true := by simp [unI, h]
theorem unI_n {a b : List Int} {k : Nat} (h : nth a k ≠ nth b k) : unI a b k = true := by simp [unI, h]
theorem unI_f {a b : List Int} {k : Nat} (h1 : k < a.length) (h2 : k < b.length) (h : nth a k = nth b k) : unI a b k = false := by
  simp [unI, h]; omega

end Go.Proofs.Ythdnokilfmbgobd
