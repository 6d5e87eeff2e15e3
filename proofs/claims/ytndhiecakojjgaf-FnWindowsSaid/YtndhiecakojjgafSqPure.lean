/-
  The program's own way with gaps, in plain numbers: it tells what the plain answer tells. No program here.
-/
import Derived.Test.YtndhiecakojjgafPure1
namespace Go.Proofs.Ytndhiecakojjgaf
open Go

/-- Where the row ahead of place k has ended: ahead of the first place the last one's end, a frame sooner. -/
def sqE (fr : Int) (ms : List Wn) : Nat → Int
  | 0 => (elAt ms (ms.length - 1)).a1 + (elAt ms (ms.length - 1)).a2 - fr
  | k + 1 => (elAt ms k).a1 + (elAt ms k).a2
def sqG (fr : Int) (ms : List Wn) : Nat → Int
  | 0 => 0
  | k + 1 => max (sqG fr ms k) ((elAt ms k).a1 - sqE fr ms k)
def sqS (ms : List Wn) : Nat → Int
  | 0 => 0
  | k + 1 => sqS ms k + (elAt ms k).a2
theorem sqG_step (fr : Int) (ms : List Wn) : ∀ k, k < ms.length → sqG fr ms (k + 1) = max (shG fr ms k) ((elAt ms 0).a1 - sqE fr ms 0)
  | 0, _ => rfl
  | k + 1, hk => by
    have ih := sqG_step fr ms k (by omega)
    have e : shN fr ms k = (elAt ms (k + 1)).a1 := by rw [shN, if_pos hk]
    show max (sqG fr ms (k + 1)) ((elAt ms (k + 1)).a1 - ((elAt ms k).a1 + (elAt ms k).a2)) = max (max (shG fr ms k) (shN fr ms k - (elAt ms k).a1 - (elAt ms k).a2)) _
    rw [ih, e]
    omega
theorem sqG_is {fr : Int} {ms : List Wn} (h : ms.length ≠ 0) : sqG fr ms ms.length = shG fr ms ms.length := by
  obtain ⟨n, hn⟩ : ∃ n, ms.length = n + 1 := ⟨ms.length - 1, by omega⟩
  have s := sqG_step fr ms n (by omega)
  have e : shN fr ms n = (elAt ms 0).a1 + fr := by rw [shN, if_neg (by omega)]
  have e2 : sqE fr ms 0 = (elAt ms n).a1 + (elAt ms n).a2 - fr := by rw [sqE, hn, Nat.add_sub_cancel]
  rw [hn, s, shG, e, e2]
  omega
theorem elAt_app_old {Z : List Wn} {x : Wn} {i : Nat} (h : i < Z.length) : elAt (Z ++ [x]) i = elAt Z i := (elAt_app Z x).1 i h
theorem sqS_app (Z : List Wn) (x : Wn) : ∀ k, k ≤ Z.length → sqS (Z ++ [x]) k = sqS Z k
  | 0, _ => rfl
  | k + 1, hk => by rw [sqS, sqS, sqS_app Z x k (by omega), elAt_app_old (by omega)]
theorem sqS_is (ws : List Wn) (p : Int) : ∀ k, sqS (shM ws p k) (shM ws p k).length = shS ws p k
  | 0 => rfl
  | k + 1 => by
    have ih := sqS_is ws p k
    simp only [shM, shS]
    split
    · rw [List.length_append, List.length_singleton, sqS, sqS_app _ _ _ (Nat.le_refl _), ih, (elAt_app _ _).2]
    · exact ih
theorem sqE_in {fr : Int} {ms : List Wn} (hf : 1 ≤ fr ∧ fr ≤ 100000) (h : ∀ i, i < ms.length → WnIn (elAt ms i)) : ∀ k, k ≤ ms.length → ms.length ≠ 0 → -100000 ≤ sqE fr ms k ∧ sqE fr ms k ≤ 110000
  | 0, _, h0 => by
    have q := h (ms.length - 1) (by omega)
    simp only [WnIn] at q
    simp only [sqE]
    omega
  | k + 1, hk, _ => by
    have q := h k (by omega)
    simp only [WnIn] at q
    simp only [sqE]
    omega
theorem sqG_in {fr : Int} {ms : List Wn} (hf : 1 ≤ fr ∧ fr ≤ 100000) (h : ∀ i, i < ms.length → WnIn (elAt ms i)) : ∀ k, k ≤ ms.length → 0 ≤ sqG fr ms k ∧ sqG fr ms k ≤ 400000
  | 0, _ => by simp [sqG]
  | k + 1, hk => by
    have ih := sqG_in hf h k (by omega)
    have q := h k (by omega)
    have e := sqE_in hf h k (by omega) (by omega)
    simp only [WnIn] at q
    simp only [sqG]
    omega
theorem sqS_in {ms : List Wn} (h : ∀ i, i < ms.length → WnIn (elAt ms i)) : ∀ k, k ≤ ms.length → 0 ≤ sqS ms k ∧ sqS ms k ≤ 10000 * (k : Int)
  | 0, _ => by simp [sqS]
  | k + 1, hk => by
    have ih := sqS_in h k (by omega)
    have q := h k (by omega)
    simp only [WnIn] at q
    simp only [sqS]
    omega

end Go.Proofs.Ytndhiecakojjgaf
