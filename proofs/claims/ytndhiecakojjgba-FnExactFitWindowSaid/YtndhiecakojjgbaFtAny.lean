/-
  What FitWindow answers, of both sides, as the laws want it; how long the answer's list is. The model's at a plan whose list is not nil and fills its room.
-/
import Derived.Test.YtndhiecakojjgbaFtSpec
namespace Go.Proofs.Ytndhiecakojjgba
open Go.RowKit

theorem ftL_len (fr pa : Int) (ws : List Wn) (p lg : Int) {n : Nat} (h : ws.length ≤ n) (hn : 41 ≤ n) : (ftL fr pa ws p lg).length ≤ n := by
  cases hb : ftB fr pa ws p lg with
  | false => rw [ftL, hb]; exact h
  | true =>
    have hA : ftA fr pa ws p lg = true ∧ decide (ftK fr ws lg ≤ ws.length) = true := by
      rw [ftB, Bool.and_eq_true] at hb
      exact hb
    have hk := of_decide_eq_true hA.2
    have f := ftA_facts hA.1
    have l1 := (ppB_facts f.1).2.2.1
    rw [(ft_at hA.1 hk rfl).2, insL_is, insL_len hk]
    omega
theorem specFitWindow_any (fr pa : Int) (da : Option Addr) (dn dc : Nat) (ws : List Wn) (p lg : Int) (w : World) (hr : PpIn w da dn ws) (hl : dn ≤ 1048576) (hd : ∃ bb, da = some ⟨bb, 0, none⟩) (hcd : dc = dn) : Calls Try.prog 5 #[.agg #[.int .i64 fr, .int .i64 pa, .slice da dn dc], .int .i64 p, .int .i64 lg] w fun e w' => ∃ (a1 : Option Addr) (c1 : Nat), e = .returned (.tuple #[.agg #[.int .i64 fr, .int .i64 pa, .slice a1 (ftL fr pa ws p lg).length c1], .bool (ftB fr pa ws p lg)]) ∧ PpOwn w' w.heap.size a1 (ftL fr pa ws p lg).length c1 (ftL fr pa ws p lg) ∧ Below w.heap.size w w' := specFitWindow_is fr pa da dn dc ws p lg w hl hd hcd hr.r1
theorem implFitWindow_any (fr pa : Int) (da : Option Addr) (dn dc : Nat) (ws : List Wn) (p lg : Int) (w : World) (hr : PpIn w da dn ws) (hl : dn ≤ 1048576) : Calls Try.prog 7 #[.agg #[.int .i64 fr, .int .i64 pa, .slice da dn dc], .int .i64 p, .int .i64 lg] w fun e w' => ∃ (a1 : Option Addr) (c1 : Nat), e = .returned (.tuple #[.agg #[.int .i64 fr, .int .i64 pa, .slice a1 (ftL fr pa ws p lg).length c1], .bool (ftB fr pa ws p lg)]) ∧ PpOwn w' w.heap.size a1 (ftL fr pa ws p lg).length c1 (ftL fr pa ws p lg) ∧ Below w.heap.size w w' := implFitWindow_is fr pa da dn dc ws p lg w hl hr.r1

end Go.Proofs.Ytndhiecakojjgba
