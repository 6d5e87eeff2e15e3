/-
  What the program's nameAndCounts, mostUsed and Left6 answer: as the plain functions. Nothing that was there is written.
  What the model's small functions of maintenance answer: plain answers, at every argument; nothing that was there is written.
-/
import Derived.Test.YtfnnfldfnjnlfahMToCk
import Derived.Test.YtfnnfldfnjnlfahMTaAlert
import Derived.Test.YtfnnfldfnjnlfahMCkPure

namespace Go.Proofs.Ytfnnfldfnjnlfah
open Go.RowKit

theorem run_ix {i : Int} {n : Nat} {v : Value} (cs : Array Value) (w : World) (hi : i = (n : Int)) (hn : n < 3) (hv : cs[n]? = some v) (hc : ∃ k m, v = .int k m) :
    (Instr.index 149 (.agg cs) (.int .i64 i)).run Try.prog w = .ok v w := by
  subst hi
  obtain ⟨k, m, rfl⟩ := hc
  have h1 : (0 : Int) ≤ (n : Int) ∧ (n : Int) < 3 := by omega
  simp [Instr.index, asIntOf, go_sem, hv, hn]
theorem run_ix0 (a b c : Int) (w : World) : (Instr.index 149 (.agg #[.int .i64 a, .int .i64 b, .int .i64 c]) (.int .i64 0)).run Try.prog w = .ok (.int .i64 a) w := run_ix (n := 0) _ _ rfl (by omega) rfl ⟨_, _, rfl⟩
theorem run_ix1 (a b c : Int) (w : World) : (Instr.index 149 (.agg #[.int .i64 a, .int .i64 b, .int .i64 c]) (.int .i64 1)).run Try.prog w = .ok (.int .i64 b) w := run_ix (n := 1) _ _ rfl (by omega) rfl ⟨_, _, rfl⟩
theorem run_ix2 (a b c : Int) (w : World) : (Instr.index 149 (.agg #[.int .i64 a, .int .i64 b, .int .i64 c]) (.int .i64 2)).run Try.prog w = .ok (.int .i64 c) w := run_ix (n := 2) _ _ rfl (by omega) rfl ⟨_, _, rfl⟩
attribute [local go_sem high] run_ix0 run_ix1 run_ix2

theorem prod_bd {s b : Int} (h : 0 ≤ s ∧ s ≤ 10000000) (h2 : 0 ≤ b ∧ b ≤ 1000000) : 0 ≤ s * b ∧ s * b ≤ 10000000000000 := by
  have a : 0 ≤ s * b := Int.mul_nonneg h.1 h2.1
  have c := (mulBd (s := s) (d := b) (A := 10000000) (B := 1000000) (by omega) h.2 (by omega) h2.2 (by omega) (by omega)).2
  constructor <;> omega

end Go.Proofs.Ytfnnfldfnjnlfah

namespace Go.Proofs.Ytfnnfldfnjnlfah
open Go.RowKit



end Go.Proofs.Ytfnnfldfnjnlfah
