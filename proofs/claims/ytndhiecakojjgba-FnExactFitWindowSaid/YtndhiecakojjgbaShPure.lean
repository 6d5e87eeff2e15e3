/-
  How much of a frame a partition has and its greatest gap, in plain numbers. No program here.
-/
import Derived.Test.YtndhiecakojjgbaPpPure
namespace Go.Proofs.Ytndhiecakojjgba
open Go

/-- The windows of a partition among the first k. -/
def shM (ws : List Wn) (p : Int) : Nat → List Wn
  | 0 => []
  | k + 1 => if (elAt ws k).a0 = p then shM ws p k ++ [elAt ws k] else shM ws p k
/-- The sum of their lengths. -/
def shS (ws : List Wn) (p : Int) : Nat → Int
  | 0 => 0
  | k + 1 => if (elAt ws k).a0 = p then shS ws p k + (elAt ws k).a2 else shS ws p k
/-- Where the next window after place i starts, the first one of the next frame behind the last. -/
def shN (fr : Int) (ms : List Wn) (i : Nat) : Int := if i + 1 < ms.length then (elAt ms (i + 1)).a1 else (elAt ms 0).a1 + fr
/-- The greatest gap behind one of the first k. -/
def shG (fr : Int) (ms : List Wn) : Nat → Int
  | 0 => 0
  | k + 1 => max (shG fr ms k) (shN fr ms k - (elAt ms k).a1 - (elAt ms k).a2)
def shB (fr pa : Int) (ws : List Wn) (p : Int) : Bool := ppB fr pa ws && inB p 0 (pa - 1)
def shR (fr pa : Int) (ws : List Wn) (p : Int) : Int := if shB fr pa ws p = true then shS ws p ws.length else 0
def shQ (fr pa : Int) (ws : List Wn) (p : Int) : Int :=
  if shB fr pa ws p = true then (if (shM ws p ws.length).length = 0 then fr else shG fr (shM ws p ws.length) (shM ws p ws.length).length) else 0

/-- What a window of a plan that is so keeps to. -/
def WnIn (x : Wn) : Prop := (0 ≤ x.a1 ∧ x.a1 ≤ 100000) ∧ (1 ≤ x.a2 ∧ x.a2 ≤ 10000)
theorem shM_len (ws : List Wn) (p : Int) : ∀ k, (shM ws p k).length ≤ k
  | 0 => Nat.le_refl 0
  | k + 1 => by
    have ih := shM_len ws p k
    simp only [shM]
    split
    · simp; omega
    · omega
theorem shM_in {ws : List Wn} (p : Int) (n : Nat) (h : ∀ j, j < n → WnIn (elAt ws j)) : ∀ k, k ≤ n → ∀ i, i < (shM ws p k).length → WnIn (elAt (shM ws p k) i)
  | 0, _, i, hi => by simp [shM] at hi
  | k + 1, hk, i, hi => by
    have ih := shM_in p n h k (by omega)
    simp only [shM] at hi ⊢
    split at hi
    · rename_i e
      rw [if_pos e]
      by_cases q : i < (shM ws p k).length
      · rw [(elAt_app _ _).1 i q]; exact ih i q
      · have e2 : i = (shM ws p k).length := by simp at hi; omega
        rw [e2, (elAt_app _ _).2]; exact h k (by omega)
    · rename_i e
      rw [if_neg e]; exact ih i hi
theorem shS_in {ws : List Wn} (p : Int) (n : Nat) (h : ∀ j, j < n → WnIn (elAt ws j)) : ∀ k, k ≤ n → 0 ≤ shS ws p k ∧ shS ws p k ≤ 10000 * (k : Int)
  | 0, _ => by simp [shS]
  | k + 1, hk => by
    have ih := shS_in p n h k (by omega)
    have q := h k (by omega)
    simp only [WnIn] at q
    simp only [shS]
    split <;> omega
theorem shN_in {fr : Int} {ms : List Wn} (hf : 1 ≤ fr ∧ fr ≤ 100000) (h : ∀ i, i < ms.length → WnIn (elAt ms i)) {i : Nat} (hi : i < ms.length) : 0 ≤ shN fr ms i ∧ shN fr ms i ≤ 200000 := by
  have q0 := h 0 (by omega)
  simp only [WnIn] at q0
  simp only [shN]
  split
  · rename_i e
    have q := h (i + 1) e
    simp only [WnIn] at q
    omega
  · omega
theorem shG_in {fr : Int} {ms : List Wn} (hf : 1 ≤ fr ∧ fr ≤ 100000) (h : ∀ i, i < ms.length → WnIn (elAt ms i)) : ∀ k, k ≤ ms.length → 0 ≤ shG fr ms k ∧ shG fr ms k ≤ 200000
  | 0, _ => by simp [shG]
  | k + 1, hk => by
    have ih := shG_in hf h k (by omega)
    have q := h k (by omega)
    have r := shN_in hf h (show k < ms.length by omega)
    simp only [WnIn] at q
    simp only [shG]
    omega
theorem ppB_in {fr pa : Int} {ws : List Wn} (h : ppB fr pa ws = true) : ∀ j, j < ws.length → WnIn (elAt ws j) := fun j hj => by
  have q := ppB_all h hj
  exact ⟨q.2.2.1, q.2.1⟩
theorem sh_no {fr pa p : Int} {ws : List Wn} (h : shB fr pa ws p = false) : shR fr pa ws p = 0 ∧ shQ fr pa ws p = 0 := by simp [shR, shQ, h]
theorem sh_none {fr pa p : Int} {ws : List Wn} (h : shB fr pa ws p = true) (e : (shM ws p ws.length).length = 0) : shQ fr pa ws p = fr := by simp [shQ, h, e]
theorem sh_yes {fr pa p : Int} {ws : List Wn} (h : shB fr pa ws p = true) (e : (shM ws p ws.length).length ≠ 0) : shR fr pa ws p = shS ws p ws.length ∧ shQ fr pa ws p = shG fr (shM ws p ws.length) (shM ws p ws.length).length := by simp [shR, shQ, h, e]
theorem shS_none {ws : List Wn} {p : Int} : ∀ k, (shM ws p k).length = 0 → shS ws p k = 0
  | 0, _ => rfl
  | k + 1, h => by
    simp only [shM] at h
    simp only [shS]
    split at h
    · simp at h
    · rename_i e
      rw [if_neg e]; exact shS_none k h

end Go.Proofs.Ytndhiecakojjgba
