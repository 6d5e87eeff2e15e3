/-
  What the model's Get16 answers, at every list of bytes. Nothing that was there is written.
-/
import Derived.Test.YtnhcmokkankcmayBuWell
namespace Go.Proofs.Ytnhcmokkankcmay
open Go.RowKit

theorem specGet16_row (ad : Option Addr) (len cap : Nat) (zs : List Int) (w : World) (hr : RowE 1 byC w ad len zs) (hz : ∀ i, i < len → 0 ≤ elAt zs i ∧ elAt zs i ≤ 255) (hcap : len ≤ cap) : Calls Try.prog 20 #[.slice ad len cap] w fun e w' => ∃ p q, e = .returned (.tuple #[.agg #[.int .i64 (gtL zs), .int .i64 (gtS zs), .slice p (gtD zs).length q], .int .i64 (gtC zs)]) ∧ OwnE 1 byC w' w.heap.size 5 (.slice p (gtD zs).length q) (gtD zs) ∧ Below w.heap.size w w' := by
  by_cases h0 : len < 4
  · exact specGet16_short ad len cap zs w hr hz h0
  by_cases h2 : 32 < elAt zs 2
  · exact specGet16_long ad len cap zs w hr hz h0 h2
  by_cases h3 : (len : Int) < elAt zs 2 + 4
  · exact specGet16_few ad len cap zs w hr hz h0 h2 h3
  by_cases h4 : elAt zs 2 + 4 < (len : Int)
  · exact specGet16_many ad len cap zs w hr hz h0 h2 h3 h4
  by_cases h5 : elAt zs 0 = 0
  · exact specGet16_link ad len cap zs w hr hz h0 h2 h3 h4 h5
  by_cases h6 : elAt zs (len - 1) = smB (zs.take (len - 1))
  · exact specGet16_well ad len cap zs w hr hz hcap h0 h2 h3 h4 h5 h6
  · exact specGet16_sum ad len cap zs w hr hz hcap h0 h2 h3 h4 h5 h6
theorem gtD_len (zs : List Int) (hz : 32 < elAt zs 2 → gtC zs ≠ 0) (hq : gtC zs = 0 → (zs.length : Int) = elAt zs 2 + 4) : (gtD zs).length ≤ 32 := by
  unfold gtD
  split
  · rename_i h
    have := hq h
    have h2 : ¬ 32 < elAt zs 2 := fun k => hz k h
    simp; omega
  · simp
theorem gt_facts {zs : List Int} (h : gtC zs = 0) : ¬ zs.length < 4 ∧ ¬ 32 < elAt zs 2 ∧ (zs.length : Int) = elAt zs 2 + 4 ∧ ¬ elAt zs 0 = 0 ∧ elAt zs (zs.length - 1) = smB (zs.take (zs.length - 1)) := by
  unfold gtC at h
  split at h
  · cases h
  split at h
  · cases h
  split at h
  · cases h
  split at h
  · cases h
  split at h
  · cases h
  split at h
  · cases h
  · rename_i a1 a2 a3 a4 a5 a6
    exact ⟨a1, a2, by omega, a5, Decidable.not_not.1 a6⟩
theorem gtD_small (zs : List Int) : (gtD zs).length ≤ 32 := gtD_len zs (fun k h => (gt_facts h).2.1 k) (fun h => (gt_facts h).2.2.1)

end Go.Proofs.Ytnhcmokkankcmay
