/-
  The law FnExactSumOf returns true at every list of items and writes nothing that was there: the walk. No condition.
-/
import Derived.Test.YtigpemoicfdfcaiPairItem
import Derived.Test.YtigpemoicfdfcaiSumImpl
namespace Go.Proofs.Ytigpemoicfdfcai
open Go.RowKit

set_option maxHeartbeats 1000000 in
theorem eqSum2_same (a b : Int) (w : World) :
    Calls Try.prog 30 #[.agg #[.int .i64 a, .int .i64 b], .agg #[.int .i64 a, .int .i64 b]] w fun e w' => e = .returned (.bool true) ∧ Below w.heap.size w w' := by
  have e1 : (a != a) = false := by simp
  have e2 : (b != b) = false := by simp
  go_enter Try.func30, Try.ntmps30
  go_wp2
  go_ret
  exact ⟨rfl, bel2 _ _⟩

set_option maxHeartbeats 2000000 in
theorem lawSumOf (ad : Option Addr) (len cap : Nat) (ps : List (Int × Int)) (w : World) (hr : Row2 w ad len ps) :
    Calls Try.prog 8 #[.slice ad len cap] w fun e w' => e = .returned (.bool true) ∧ Below w.heap.size w w' := by
  have R := hide hr
  have hm := hr.small
  clear hr
  by_cases g : (1048576 : Int) < len
  · go_enter Try.func8, Try.ntmps8
    go_wp2_with fail
    refine (szItemS_no _ _ _ _ _ (by omega) (by omega) (by omega) (by omega)).mono ?_
    rintro e w' ⟨rfl, hw⟩
    subst w'
    go_wp2_with fail
    go_ret
    exact ⟨rfl, Below.refl _ _⟩
  · have hl : len ≤ 1048576 := by omega
    go_enter Try.func8, Try.ntmps8
    go_wp2_with fail
    refine (szItemS_yes _ _ _ _ _ (by omega) (by omega)).mono ?_
    rintro e w' ⟨rfl, hw⟩
    subst w'
    go_wp2_with fail
    refine (toItemS_any _ _ _ ps _ (unhide R) hl).mono ?_
    rintro e w1 ⟨rfl, q1, b1⟩
    have B1 := hide b1
    clear b1
    go_wp2_with fail
    refine (specSumOf_any _ _ _ ps _ q1).mono ?_
    rintro e w2 ⟨rfl, b2⟩
    have hs1 : w.heap.size ≤ w1.heap.size := (unhide B1).size
    have hs2 : w1.heap.size ≤ w2.heap.size := b2.size
    have B2 := hide (((unhide B1).trans (b2.mono hs1)).alloc (by omega) (Obj.cells #[.int .i64 (sumA ps), .int .i64 (sumB ps)] 54))
    clear b2 q1
    go_wp2_with fail
    refine (toItemS_any _ _ _ ps _ ((unhide R).below (unhide B2)) hl).mono ?_
    rintro e w3 ⟨rfl, q3, b3⟩
    have u0 : w3.cell? ⟨w2.heap.size, 0, none⟩ = some (.int .i64 (sumA ps)) := (b3.cell (p := ⟨w2.heap.size, 0, none⟩) (by simp)).trans (by simp [go_sem])
    have u1 : w3.cell? ⟨w2.heap.size, 1, none⟩ = some (.int .i64 (sumB ps)) := (b3.cell (p := ⟨w2.heap.size, 1, none⟩) (by simp)).trans (by simp [go_sem])
    have hs3 : w2.heap.size < w3.heap.size := by have := b3.size; simp at this; omega
    have B3 := hide ((unhide B2).trans (b3.mono (by simp; omega)))
    simp only [World.alloc, Array.size_push] at q3
    have Q3 := hide q3
    clear b3 q3
    go_wp2_with fail
    refine (implSumOf_any _ _ _ ps _ (unhide Q3)).mono ?_
    rintro e w4 ⟨rfl, b4⟩
    have u0 := (b4.cell (p := ⟨w2.heap.size, 0, none⟩) hs3).trans u0
    have u1 := (b4.cell (p := ⟨w2.heap.size, 1, none⟩) hs3).trans u1
    have hs4 : w2.heap.size < w4.heap.size := by have := b4.size; omega
    have B4 := hide (((unhide B3).trans (b4.mono (by omega))).alloc (by omega) (Obj.cells #[.int .i64 (sumA ps), .int .i64 (sumB ps)] 54))
    have Q4 := hide (((unhide Q3).below b4).alloc (Obj.cells #[.int .i64 (sumA ps), .int .i64 (sumB ps)] 54))
    have hq : (sumFlag ps != sumFlag ps) = false := by simp
    clear b4 Q3
    go_wp2_with fail
    refine (eqSum2_same _ _ _).mono ?_
    rintro e w5 ⟨rfl, b5⟩
    have B5 := hide ((unhide B4).trans (b5.mono (by simp; omega)))
    have Q5 := hide ((unhide Q4).below b5)
    clear b5 u0 u1 Q4
    go_wp2_with fail
    refine (toItemS_any _ _ _ ps _ ((unhide R).below (unhide B5)) hl).mono ?_
    rintro e w6 ⟨rfl, q6, b6⟩
    have Q6 := hide ((unhide Q5).below b6)
    have B6 := hide ((unhide B5).trans (b6.mono (by have := (unhide B5).size; omega)))
    have Q7 := hide q6
    clear b6 q6
    go_wp2_with fail
    refine (eqItemS_same _ _ _ _ _ _ ps _ (unhide Q6) (unhide Q7)).mono ?_
    rintro e w7 ⟨rfl, b7⟩
    have B7 := hide ((unhide B6).trans (b7.mono (by have := (unhide B6).size; omega)))
    clear b7
    go_wp2_with fail
    go_ret
    exact ⟨rfl, unhide B7⟩

end Go.Proofs.Ytigpemoicfdfcai
