/-
  What the model of chapter 13 answers of descents and points: the plain answers, at every argument; nothing that was there is written.
-/
import Derived.Test.YtbaocifpifbldavSmall
import Derived.Test.YtbaocifpifbldavPfPure
import Derived.Test.YtbaocifpifbldavBlk
namespace Go.Proofs.Ytbaocifpifbldav
open Go.RowKit

theorem dsN_bd {h s : Int} (h0 : 0 ≤ h) (h1 : h ≤ 100000) (s0 : 1 ≤ s) (s1 : s ≤ 1000) : 0 ≤ dsN h s ∧ dsN h s ≤ 101000 := by
  unfold dsN
  rw [Int.tdiv_eq_ediv_of_nonneg (by omega)]
  exact ⟨Int.ediv_nonneg (by omega) (by omega), Int.le_trans (Int.ediv_le_self _ (by omega)) (by omega)⟩
set_option maxHeartbeats 1000000 in
theorem specDescent_any (a s f : Int) (w : World) :
    Calls Try.prog 25 #[.int .i64 a, .int .i64 s, .int .i64 f] w fun e w' => e = .returned (.tuple #[.int .i64 (dsR a s f), .bool (dsB a s f)]) ∧ Below w.heap.size w w' := by
  rcases three (inB a 0 100000) (inB s 1 1000) (inB f 0 100000) with ⟨q1, hv⟩ | ⟨q1, q2, hv⟩ | ⟨q1, q2, q3, hv⟩ | ⟨q1, q2, q3, hv⟩
  iterate 3
    · have HB : dsB a s f = false := by have e : dsOk a s f = false := hv; simp [dsB, e]
      have HE := hide HB
      have HR : dsR a s f = 0 := by simp [dsR, HB]
      rw [HB, HR]
      clear HB HR hv
      go_enter Try.func25, Try.ntmps25
      go_wp2_with (go_at_call 32; refine (l1In_is _ _ _ _ (by first | exact q1 | exact q2 | exact q3)).mono ?_; rintro e w' ⟨rfl, hw⟩; subst w')
      go_ret2
      exact ⟨rfl, Below.refl _ _⟩
  have f1 := in_facts q1
  have f2 := in_facts q2
  have f3 := in_facts q3
  have hb := dsN_bd f1.1 f1.2 f2.1 f2.2
  have hz : ¬ s = 0 := by omega
  obtain ⟨n, hn⟩ : ∃ n, (a + s - 1).tdiv s = n := ⟨_, rfl⟩
  have hn' : dsN a s = n := hn
  rw [hn'] at hb
  have b0 := hb.1
  have b1 := hb.2
  have a0 := f1.1
  have a1 := f1.2
  have s0 := f2.1
  have s1 := f2.2
  have g0 := f3.1
  have g1 := f3.2
  have hO : dsOk a s f = true := hv
  by_cases hf : f < n
  · have HB : dsB a s f = false := by simp [dsB, hO, hn']; omega
    have HR : dsR a s f = 0 := by simp [dsR, HB]
    rw [HB, HR]
    clear HB HR hv hO hn' hb f1 f2 f3
    go_enter Try.func25, Try.ntmps25
    go_wp2_with (go_at_call 32; refine (l1In_is _ _ _ _ (by first | exact q1 | exact q2 | exact q3)).mono ?_; rintro e w' ⟨rfl, hw⟩; subst w')
    go_ret2
    exact ⟨rfl, Below.refl _ _⟩
  · have HB : dsB a s f = true := by simp [dsB, hO, hn']; omega
    have HR : dsR a s f = f - n := by simp [dsR, HB, hn']
    rw [HB, HR]
    clear HB HR hv hO hn' hb f1 f2 f3
    go_enter Try.func25, Try.ntmps25
    go_wp2_with (go_at_call 32; refine (l1In_is _ _ _ _ (by first | exact q1 | exact q2 | exact q3)).mono ?_; rintro e w' ⟨rfl, hw⟩; subst w')
    go_ret2
    exact ⟨rfl, Below.refl _ _⟩

end Go.Proofs.Ytbaocifpifbldav
