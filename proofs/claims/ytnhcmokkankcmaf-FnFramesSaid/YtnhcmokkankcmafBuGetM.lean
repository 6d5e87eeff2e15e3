/-
  What the model's Get16 answers, at every list of bytes. Nothing that was there is written.
-/
import Derived.Test.YtnhcmokkankcmafBuWell
namespace Go.Proofs.Ytnhcmokkankcmaf
open Go.RowKit

theorem gtD_len (zs : List Int) (hz : 32 < elAt zs 2 → gtC zs ≠ 0) (hq : gtC zs = 0 → (zs.length : Int) = elAt zs 2 + 4) : (gtD zs).length ≤ 32 := by
  unfold gtD
  split
  · rename_i h
    have := hq h
    have h2 : ¬ 32 < elAt zs 2 := fun k => hz k h
    simp; omega
  · simp
theorem gt_facts {zs : List Int} (h : gtC zs = 0) : ¬ zs.length < 4 ∧ ¬ 32 < elAt zs 2 ∧ (zs.length : Int) = elAt zs 2 + 4 ∧ ¬ elAt zs 0 = 0 ∧ elAt zs (zs.length - 1) = smB (zs.take (zs.length - 1)) := by
  unfold gtC at h
  split at h
  · cases h
  split at h
  · cases h
  split at h
  · cases h
  split at h
  · cases h
  split at h
  · cases h
  split at h
  · cases h
  · rename_i a1 a2 a3 a4 a5 a6
    exact ⟨a1, a2, by omega, a5, Decidable.not_not.1 a6⟩
theorem gtD_small (zs : List Int) : (gtD zs).length ≤ 32 := gtD_len zs (fun k h => (gt_facts h).2.1 k) (fun h => (gt_facts h).2.2.1)

end Go.Proofs.Ytnhcmokkankcmaf
