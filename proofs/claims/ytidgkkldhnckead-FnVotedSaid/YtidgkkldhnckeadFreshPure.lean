/-
  What Fresh tells, in plain numbers. No program here.
-/
import Derived.Test.YtidgkkldhnckeadVoPure
namespace Go.Proofs.Ytidgkkldhnckead
open Go

def freOk (lanes near hold : Int) : Bool := inB lanes 1 5 && inB near 0 1000 && inB hold 1 20
def freN (lanes near hold : Int) : Int := if freOk lanes near hold = true then near else 0
def freH (lanes near hold : Int) : Int := if freOk lanes near hold = true then hold else 0
def freB (lanes near hold : Int) : List Bool := if freOk lanes near hold = true then List.replicate lanes.toNat false else []
def freO (lanes near hold : Int) : List Int := if freOk lanes near hold = true then List.replicate lanes.toNat 0 else []
theorem fre_no {lanes near hold : Int} (h : freOk lanes near hold = false) : freN lanes near hold = 0 ∧ freH lanes near hold = 0 ∧ freB lanes near hold = [] ∧ freO lanes near hold = [] := by
  simp [freN, freH, freB, freO, h]
theorem fre_yes {lanes near hold : Int} (h : freOk lanes near hold = true) : freN lanes near hold = near ∧ freH lanes near hold = hold ∧ freB lanes near hold = List.replicate lanes.toNat false ∧ freO lanes near hold = List.replicate lanes.toNat 0 := by
  simp [freN, freH, freB, freO, h]
theorem fre_len {lanes near hold : Int} : (freB lanes near hold).length ≤ 5 ∧ (freO lanes near hold).length ≤ 5 := by
  cases h : freOk lanes near hold with
  | false => simp [fre_no h]
  | true =>
    have e : inB lanes 1 5 = true := by simp only [freOk, Bool.and_eq_true] at h; exact h.1.1
    have := inB_in e
    simp [fre_yes h]; omega
theorem fre_vo {L : Nat} {near hold : Int} (h : inB (L : Int) 1 5 = true) : voOk near hold (List.replicate L false) (List.replicate L 0) = freOk L near hold := by
  cases e1 : inB near 0 1000 with
  | false => rw [voOk_no (.inl e1)]; simp [freOk, e1]
  | true =>
    cases e2 : inB hold 1 20 with
    | false => rw [voOk_no (.inr (.inl e2))]; simp [freOk, e2]
    | true =>
      have hb := inB_in e2
      rw [voOk_yes e1 e2 (by simpa using h) (by simp) (by
        simp only [allB, decide_eq_true_eq]
        intro i hi
        have hi' : i < L := by simpa using hi
        have : nth (List.replicate L 0) i = 0 := by simp [nth, hi']
        rw [this]; simp [inB]; omega)]
      simp [freOk, h, e1, e2]

end Go.Proofs.Ytidgkkldhnckead
