/-
  Effective of both sides, with the readings of both arguments handed in ahead of what the lists hold.
-/
import Derived.Test.YtemodlgmjgdjpaaGreatDoorEfSpc
import Derived.Test.YtemodlgmjgdjpaaGreatDoorEfImp
namespace Go.Proofs.YtemodlgmjgdjpaaGreatDoor
open Go Go.RowKit

theorem efL_small (s : Int) (zs ms : List Lc) : (efL s zs ms).length ≤ 1048576 := by
  unfold efL
  split
  · rename_i h
    have h1 := efK_len s zs ms ms.length
    have h2 : ms.length ≤ 30 := by
      simp only [efB, Bool.and_eq_true, decide_eq_true_eq] at h
      exact h.1.2
    omega
  · simp
theorem specEffL_any (s : Int) (a1 : Option Addr) (l1 c1 : Nat) (zs : List Lc) (b1 : Option Addr) (n1 d1 : Nat) (ms : List Lc) (w : World) (hr : AbIn w a1 l1 zs) (hm : LsT w b1 n1 ms) (hlz : LzB zs) (hmz : LzB ms) :
    Calls Tryz.prog 26 #[.agg #[.int .i64 s, .slice a1 l1 c1], .slice b1 n1 d1] w fun e w' => ∃ a9 c9, e = .returned (.tuple #[.slice a9 (efL s zs ms).length c9, .bool (efB s zs ms)]) ∧ OwnI w' w.heap.size (.slice a9 (efL s zs ms).length c9) (efL s zs ms) ∧ Below w.heap.size w w' :=
  (specEffective_any s a1 l1 c1 zs b1 n1 d1 ms w hr hlz hm hmz).mono fun _ _ h => h
theorem implEffL_any (s : Int) (a1 : Option Addr) (l1 c1 : Nat) (zs : List Lc) (b1 : Option Addr) (n1 d1 : Nat) (ms : List Lc) (w : World) (hr : AbIn w a1 l1 zs) (hm : LsT w b1 n1 ms) (hg : ErG w) :
    Calls Tryz.prog 12 #[.agg #[.int .i64 s, .slice a1 l1 c1], .slice b1 n1 d1] w fun e w' => ∃ a9 c9, e = .returned (.tuple #[.slice a9 (efL s zs ms).length c9, .bool (efB s zs ms)]) ∧ OwnI w' w.heap.size (.slice a9 (efL s zs ms).length c9) (efL s zs ms) ∧ Below w.heap.size w w' :=
  (implEffective_any s a1 l1 c1 zs b1 n1 d1 ms w hr hm hg).mono fun _ _ h => h

end Go.Proofs.YtemodlgmjgdjpaaGreatDoor
