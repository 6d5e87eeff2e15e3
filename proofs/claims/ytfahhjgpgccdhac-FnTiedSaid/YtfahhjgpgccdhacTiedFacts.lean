/-
  What is plain of ties that are told to be closed: they are there and open, one after the other, and with them closed the first rank is fed; none is told where none is needed. No program here.
-/
import Derived.Test.YtfahhjgpgccdhacClPure
namespace Go.Proofs.Ytfahhjgpgccdhac
open Go.RowKit

/-- Ties that may be closed one after the other, behind which all is well. -/
def okL (well : List Ti → Bool) : List Int → List Ti → Prop
  | [], ts => well ts = true
  | x :: l, ts => (0 ≤ x ∧ x < ts.length) ∧ (elAt ts x.toNat).a2 = false ∧ okL well l (shutT ts x.toNat)
theorem clIn_some {g : Nat → Option (List Int)} {ts : List Ti} : ∀ f i l, clIn g ts f i = some l → ∃ (k : Nat) (l' : List Int), l = (k : Int) :: l' ∧ k < i + f ∧ (elAt ts k).a2 = false ∧ g k = some l' := by
  intro f
  induction f with
  | zero => intro i l h; simp [clIn] at h
  | succ n ih =>
    intro i l h
    rw [clIn] at h
    split at h
    · obtain ⟨k, l', h1, h2, h3⟩ := ih _ _ h
      exact ⟨k, l', h1, by omega, h3⟩
    · rename_i hc
      split at h
      · rename_i l' e
        simp only [Option.some.injEq] at h
        exact ⟨i, l', h.symm, by omega, by simpa using hc, e⟩
      · obtain ⟨k, l', h1, h2, h3⟩ := ih _ _ h
        exact ⟨k, l', h1, by omega, h3⟩
theorem clR_okL {well : List Ti → Bool} : ∀ m i ts l, i ≤ ts.length → clR well m i ts = some l → okL well l ts := by
  intro m
  induction m with
  | zero =>
    intro i ts l _ h
    rw [clR] at h
    split at h
    · cases h; assumption
    · cases h
  | succ n ih =>
    intro i ts l hi h
    rw [clR] at h
    obtain ⟨k, l', rfl, h2, h3, h4⟩ := clIn_some _ _ _ h
    have hk : k < ts.length := by omega
    refine ⟨by omega, by simpa using h3, ?_⟩
    have := ih (k + 1) (shutT ts k) l' (by rw [shutT_len]; omega) h4
    simpa using this
theorem clUp_first {f : Nat → Option (List Int)} {n : Nat} (h : clUp f (n + 1) 0 = none) : f 0 = none := by
  rw [clUp] at h
  split at h
  · cases h
  · assumption
/-- Nothing is found: it is not well. -/
theorem clT_none {N : Nat} {ss : List Sr} {ts : List Ti} {us : List Us} {most : Nat} (h : clT N ss ts us most = none) : wellB N ss us ts = false := by
  have := clUp_first h
  rw [clR] at this
  cases e : wellB N ss us ts with
  | false => rfl
  | true => rw [e] at this; simp at this
/-- None is told just where none is needed. -/
theorem clT_some {N : Nat} {ss : List Sr} {ts : List Ti} {us : List Us} {most : Nat} {l : List Int} (h : clT N ss ts us most = some l) : (wellB N ss us ts = true ↔ l = []) ∧ okL (wellB N ss us) l ts := by
  obtain ⟨j, _, _, h3⟩ := clUp_some _ _ _ h
  refine ⟨⟨fun hw => ?_, fun hl => ?_⟩, clR_okL _ _ _ _ (Nat.zero_le _) h3⟩
  · have h0 : clR (wellB N ss us) 0 0 ts = some [] := by rw [clR, if_pos hw]
    unfold clT at h
    rw [clUp, h0] at h
    simpa using h.symm
  · subst hl
    have := clR_len _ _ _ _ h3
    simp at this
    subst this
    rw [clR] at h3
    cases e : wellB N ss us ts with
    | true => rfl
    | false => rw [e] at h3; simp at h3
/-- One step of the closing. -/
theorem okL_step {well : List Ti → Bool} {l : List Int} {ts : List Ti} {j : Nat} (hj : j < l.length) (h : okL well (l.drop j) ts) : (0 ≤ nth l j ∧ nth l j < ts.length) ∧ (elAt ts (nth l j).toNat).a2 = false ∧ okL well (l.drop (j + 1)) (shutT ts (nth l j).toNat) := by
  rw [List.drop_eq_getElem_cons hj] at h
  have e : nth l j = l[j] := by simp [nth, hj]
  rw [e]; exact h

end Go.Proofs.Ytfahhjgpgccdhac
