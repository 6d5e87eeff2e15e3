/-
  The program's own way with plans in plain numbers: how many windows lie in order, how many have begun; they say what the plain answers say. No program here.
-/
import Derived.Test.YtndhiecakojjgbaPpPure
namespace Go.Proofs.Ytndhiecakojjgba
open Go

theorem wn_three {fr pa e x0 x1 x2 : Int} : wnB fr pa e ⟨x0, x1, x2⟩ = (inB x0 0 (pa - 1) && inB x2 1 10000 && inB x1 e (fr - x2)) := by
  cases h : inB x2 1 10000 with
  | false => simp [wnB, h]
  | true =>
    have f := in_facts h
    have : (inB x1 e fr && decide (x1 + x2 ≤ fr)) = inB x1 e (fr - x2) := by
      rw [Bool.eq_iff_iff]
      simp only [inB, Bool.and_eq_true, decide_eq_true_eq]
      omega
    rw [wnB]
    simp only [h, Bool.and_true, Bool.and_assoc, this]
/-- How many windows lie in order, up to the first that does not. -/
def pwC (fr pa : Int) (ws : List Wn) : Nat := ((List.range ws.length).find? fun k => !wnB fr pa (pwE ws k) (elAt ws k)).getD ws.length
theorem pwC_at {fr pa : Int} {ws : List Wn} {k : Nat} (hk : k < ws.length) (h : wnB fr pa (pwE ws k) (elAt ws k) = false) (hb : ∀ j, j < k → wnB fr pa (pwE ws j) (elAt ws j) = true) : pwC fr pa ws = k := by
  have : (List.range ws.length).find? (fun k => !wnB fr pa (pwE ws k) (elAt ws k)) = some k := by
    rw [List.find?_range_eq_some]
    exact ⟨by simpa using h, by simpa using hk, fun j hj => by simpa using hb j hj⟩
  unfold pwC; rw [this]; rfl
theorem pwC_all {fr pa : Int} {ws : List Wn} (hb : ∀ j, j < ws.length → wnB fr pa (pwE ws j) (elAt ws j) = true) : pwC fr pa ws = ws.length := by
  have : (List.range ws.length).find? (fun k => !wnB fr pa (pwE ws k) (elAt ws k)) = none := by
    rw [List.find?_eq_none]
    intro i hi
    simpa using hb i (by simpa using hi)
  unfold pwC; rw [this]; rfl
theorem pwC_is (fr pa : Int) (ws : List Wn) : pwB fr pa ws = decide (pwC fr pa ws = ws.length) ∧ pwC fr pa ws ≤ ws.length := by
  cases e : (List.range ws.length).find? (fun k => !wnB fr pa (pwE ws k) (elAt ws k)) with
  | none =>
    have hb : ∀ j, j < ws.length → wnB fr pa (pwE ws j) (elAt ws j) = true := by
      rw [List.find?_eq_none] at e
      intro j hj
      simpa using e j (by simpa using hj)
    rw [pwC_all hb, pwB_yes hb]
    simp
  | some k =>
    rw [List.find?_range_eq_some] at e
    have h1 : wnB fr pa (pwE ws k) (elAt ws k) = false := by simpa using e.1
    have h2 : k < ws.length := by simpa using e.2.1
    rw [pwC_at h2 h1 (fun j hj => by simpa using e.2.2 j hj), pwB_no h2 h1]
    refine ⟨?_, by omega⟩
    rw [eq_comm, decide_eq_false_iff_not]
    omega
/-- How many windows have begun by a tick of the frame. -/
def bgN (ws : List Wn) (a : Int) : Nat := ((List.range ws.length).find? fun k => decide (a < (elAt ws k).a1)).getD ws.length
theorem bgN_at {ws : List Wn} {a : Int} {k : Nat} (hk : k < ws.length) (h : a < (elAt ws k).a1) (hb : ∀ j, j < k → (elAt ws j).a1 ≤ a) : bgN ws a = k := by
  have : (List.range ws.length).find? (fun k => decide (a < (elAt ws k).a1)) = some k := by
    rw [List.find?_range_eq_some]
    exact ⟨by simpa using h, by simpa using hk, fun j hj => by simpa using hb j hj⟩
  unfold bgN; rw [this]; rfl
theorem bgN_all {ws : List Wn} {a : Int} (hb : ∀ j, j < ws.length → (elAt ws j).a1 ≤ a) : bgN ws a = ws.length := by
  have : (List.range ws.length).find? (fun k => decide (a < (elAt ws k).a1)) = none := by
    rw [List.find?_eq_none]
    intro i hi
    simpa using hb i (by simpa using hi)
  unfold bgN; rw [this]; rfl
theorem bgN_is (ws : List Wn) (a : Int) : bgN ws a ≤ ws.length ∧ (∀ j, j < bgN ws a → (elAt ws j).a1 ≤ a) ∧ (bgN ws a < ws.length → a < (elAt ws (bgN ws a)).a1) := by
  cases e : (List.range ws.length).find? (fun k => decide (a < (elAt ws k).a1)) with
  | none =>
    rw [List.find?_eq_none] at e
    have hb : ∀ j, j < ws.length → (elAt ws j).a1 ≤ a := fun j hj => by simpa using e j (by simpa using hj)
    rw [bgN_all hb]
    exact ⟨Nat.le_refl _, hb, fun h => absurd h (Nat.lt_irrefl _)⟩
  | some k =>
    rw [List.find?_range_eq_some] at e
    have h1 : a < (elAt ws k).a1 := by simpa using e.1
    have h2 : k < ws.length := by simpa using e.2.1
    have hb : ∀ j, j < k → (elAt ws j).a1 ≤ a := fun j hj => by simpa using e.2.2 j hj
    rw [bgN_at h2 h1 hb]
    exact ⟨Nat.le_of_lt h2, hb, fun _ => h1⟩
/-- Windows of a plan that is so lie one behind the other. -/
theorem pp_apart {fr pa : Int} {ws : List Wn} (h : ppB fr pa ws = true) {i : Nat} : ∀ d, i + d + 1 < ws.length → (elAt ws i).a1 + (elAt ws i).a2 ≤ (elAt ws (i + d + 1)).a1
  | 0, hj => by
    have w := wnB_facts ((ppB_facts h).2.2.2 (i + 0 + 1) hj)
    exact w.2.2.1.1
  | d + 1, hj => by
    have ih := pp_apart h (i := i) d (by omega)
    have w := wnB_facts ((ppB_facts h).2.2.2 (i + (d + 1) + 1) hj)
    have w2 := ppB_all h (k := i + d + 1) (by omega)
    have e : pwE ws (i + (d + 1) + 1) = (elAt ws (i + d + 1)).a1 + (elAt ws (i + d + 1)).a2 := rfl
    rw [e] at w
    omega
theorem pp_behind {fr pa : Int} {ws : List Wn} (h : ppB fr pa ws = true) {i j : Nat} (hij : i < j) (hj : j < ws.length) : (elAt ws i).a1 + (elAt ws i).a2 ≤ (elAt ws j).a1 := by
  have := pp_apart h (i := i) (j - i - 1) (by omega)
  rwa [show i + (j - i - 1) + 1 = j by omega] at this
/-- Whose a tick is, by the last window that has begun. -/
theorem inW_no {a : Int} {x : Wn} (h : a < x.a1 ∨ x.a1 + x.a2 ≤ a) : inW a x = false := by
  rw [inW, inB]
  simp only [decide_eq_false_iff_not]
  omega
theorem inW_yes {a : Int} {x : Wn} (h : x.a1 ≤ a) (h2 : a < x.a1 + x.a2) : inW a x = true := by
  rw [inW, inB]
  simp only [decide_eq_true_eq]
  omega
theorem owF_begun {fr pa : Int} {ws : List Wn} (h : ppB fr pa ws = true) {a : Int} : (bgN ws a = 0 → owF ws a = ws.length) ∧ ∀ m, bgN ws a = m + 1 → m < ws.length ∧ ((elAt ws m).a1 + (elAt ws m).a2 ≤ a → owF ws a = ws.length) ∧ (a < (elAt ws m).a1 + (elAt ws m).a2 → owF ws a = m) := by
  have g := bgN_is ws a
  have late : ∀ j, bgN ws a ≤ j → j < ws.length → inW a (elAt ws j) = false := fun j hj hl => by
    refine inW_no (.inl ?_)
    have h1 := g.2.2 (by omega)
    by_cases e : j = bgN ws a
    · rw [e]; exact h1
    · have := pp_behind h (i := bgN ws a) (j := j) (by omega) hl
      have w := ppB_all h (k := bgN ws a) (by omega)
      omega
  refine ⟨fun h0 => owF_none fun j hj => late j (by omega) hj, fun m hm => ?_⟩
  have hml : m < ws.length := by omega
  have early : ∀ j, j < m → inW a (elAt ws j) = false := fun j hj => by
    refine inW_no (.inr ?_)
    have h1 := g.2.1 m (by omega)
    have := pp_behind h hj hml
    omega
  refine ⟨hml, fun he => owF_none fun j hj => ?_, fun he => owF_at hml (inW_yes (g.2.1 m (by omega)) he) early⟩
  rcases Nat.lt_trichotomy j m with k | k | k
  · exact early j k
  · subst k; exact inW_no (.inr he)
  · exact late j (by omega) hj

end Go.Proofs.Ytndhiecakojjgba
