/-
  Sums, quotients and steps of small whole numbers as floats: they are exact. No program here.
-/
import Derived.Test.YtgihdklgmndeeabMarkPureC
import Derived.Test.YtgihdklgmndeeabSmoothPure
namespace Go.Proofs.Ytgihdklgmndeeab
open Go

theorem add_small : ∀ i : Fin 256, ∀ n : Fin 21, fl .add .f64 (fint ((n.val : Int) * ((i.val : Int) - 128))) (fint ((i.val : Int) - 128)) = fint (((n.val : Int) + 1) * ((i.val : Int) - 128)) := by decide +kernel
theorem quo_small : ∀ i : Fin 256, ∀ n : Fin 21, fl .quo .f64 (fint (((n.val : Int) + 1) * ((i.val : Int) - 128))) (fint ((n.val : Int) + 1)) = fint ((i.val : Int) - 128) := by decide +kernel
theorem step_small : ∀ i : Fin 256, smStep 4607182418800017408 (fint ((i.val : Int) - 128)) (fint ((i.val : Int) - 128)) = fint ((i.val : Int) - 128) := by decide +kernel

theorem back {x : Int} (h0 : -128 ≤ x) : (((x + 128).toNat : Int) - 128) = x := by omega
theorem add_s {x : Int} (h0 : -128 ≤ x) (h1 : x ≤ 127) {n : Nat} (hn : n ≤ 20) : fl .add .f64 (fint ((n : Int) * x)) (fint x) = fint (((n : Int) + 1) * x) := by
  have h := add_small ⟨(x + 128).toNat, by omega⟩ ⟨n, by omega⟩
  simpa only [back h0] using h
theorem quo_s {x : Int} (h0 : -128 ≤ x) (h1 : x ≤ 127) {n : Nat} (hn : n ≤ 20) : fl .quo .f64 (fint (((n : Int) + 1) * x)) (fint ((n : Int) + 1)) = fint x := by
  have h := quo_small ⟨(x + 128).toNat, by omega⟩ ⟨n, by omega⟩
  simpa only [back h0] using h
theorem step_s {x : Int} (h0 : -128 ≤ x) (h1 : x ≤ 127) : smStep 4607182418800017408 (fint x) (fint x) = fint x := by
  have h := step_small ⟨(x + 128).toNat, by omega⟩
  simpa only [back h0] using h

end Go.Proofs.Ytgihdklgmndeeab
