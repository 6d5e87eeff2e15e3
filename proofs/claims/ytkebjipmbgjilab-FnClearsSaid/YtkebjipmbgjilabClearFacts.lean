/-
  Plain facts of clearing peaks: what clears with a margin clears with less; the first that does not is told. No program here.
-/
import Derived.Test.YtkebjipmbgjilabPhasePure
namespace Go.Proofs.Ytkebjipmbgjilab

theorem peak_part {qs rs : List (Int × Int)} (h : peakB qs = true) (hl : rs.length ≤ qs.length) (he : ∀ i, i < rs.length → ∃ j, j < qs.length ∧ fstAt rs i = fstAt qs j ∧ sndAt rs i = sndAt qs j) : peakB rs = true := by
  simp only [peakB, Bool.and_eq_true, decide_eq_true_eq] at h ⊢
  refine ⟨by omega, fun i hi => ?_⟩
  obtain ⟨j, hj, e1, e2⟩ := he i hi
  rw [e1, e2]
  exact h.2 j hj
theorem take_at {qs : List (Int × Int)} {i j : Nat} (h : j < i) : fstAt (qs.take i) j = fstAt qs j ∧ sndAt (qs.take i) j = sndAt qs j := by
  unfold fstAt sndAt
  rw [List.getElem?_take, if_pos h]
  exact ⟨rfl, rfl⟩

theorem clears_law {start : Int} {ps qs : List (Int × Int)} {m : Int} (hok : clearOk start ps qs m = true) (hm : ¬ m = 0) :
    clearR start ps qs (m - 1) = (clearAt start ps qs (m - 1), true) ∧
    ((clearAt start ps qs m = -1 ∧ clearAt start ps qs (m - 1) = -1) ∨
      ∃ i : Nat, i < qs.length ∧ clearAt start ps qs m = i ∧ (clearAt start ps qs (m - 1) = -1 ∨ (i : Int) ≤ clearAt start ps qs (m - 1)) ∧ clearR start ps (qs.take i) m = (-1, true) ∧ clearR start ps [(fstAt qs i, sndAt qs i)] m = (0, true)) := by
  have hok' := hok
  simp only [clearOk, Bool.and_eq_true] at hok
  obtain ⟨⟨h1, h2⟩, h3⟩ := hok
  have hmm : 0 ≤ m ∧ m ≤ 1000 := by simpa [inB] using h3
  have weaker : ∀ j, lowPk start ps qs m j = false → lowPk start ps qs (m - 1) j = false := by
    intro j hj
    simp only [lowPk, decide_eq_false_iff_not] at hj ⊢
    omega
  refine ⟨clearR_yes (by simp only [clearOk, h1, h2, inB]; simp; omega), ?_⟩
  rcases clear_is start ps qs m with ⟨e, hall⟩ | ⟨i, hi, e, hlow, hbef⟩
  · exact .inl ⟨e, clear_none fun j hj => weaker j (hall j hj)⟩
  · refine .inr ⟨i, hi, e, ?_, ?_, ?_⟩
    · rcases clear_is start ps qs (m - 1) with ⟨e', _⟩ | ⟨i', _, e', hlow', _⟩
      · exact .inl e'
      · refine .inr ?_
        rw [e']
        by_cases h : i' < i
        · have := weaker i' (hbef i' h)
          rw [hlow'] at this; cases this
        · omega
    · have hp : peakB (qs.take i) = true := peak_part h2 (by simp; omega) fun j hj => by
        have hj' : j < i := by simp at hj; omega
        exact ⟨j, by omega, take_at hj'⟩
      rw [clearR_yes (by simp [clearOk, h1, hp, h3]), clear_none fun j hj => ?_]
      have hj' : j < i := by simp at hj; omega
      have := hbef j hj'
      simp only [lowPk] at this ⊢
      rw [(take_at hj').1, (take_at hj').2]
      exact this
    · have hp : peakB [(fstAt qs i, sndAt qs i)] = true := peak_part h2 (by simp; omega) fun j hj => by
        have hj' : j = 0 := by simp at hj; exact hj
        subst hj'
        exact ⟨i, hi, rfl, rfl⟩
      rw [clearR_yes (by simp [clearOk, h1, hp, h3]), clear_at (i := 0) (by simp) ?_ (fun j hj => by omega)]
      · rfl
      · exact hlow

end Go.Proofs.Ytkebjipmbgjilab
