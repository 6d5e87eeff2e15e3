/-
  What RunJobs answers, of both sides, as the laws want it. No condition.
-/
import Derived.Test.YtndhiecakojjgazRmSpec
import Derived.Test.YtndhiecakojjgazPpTo
namespace Go.Proofs.Ytndhiecakojjgaz
open Go.RowKit

theorem rjL_len (fr pa : Int) (ws : List Wn) (js : List Jb) (tk : Int) : (rjL fr pa ws js tk).length ≤ 20 := by
  cases h : rjB fr pa ws js tk with
  | false => rw [(rj_no h).1]; simp
  | true =>
    have f := rjB_facts h
    rw [(rj_yes h).1, (rjT_in (fun k hk => (f.2.2.2 k hk).2.2) tk.toNat).lt.1]
    exact f.2.1
theorem specRunJobs_any (fr pa : Int) (da : Option Addr) (dn dc : Nat) (ws : List Wn) (ja : Option Addr) (jn jc : Nat) (js : List Jb) (tk : Int) (w : World) (hr : PpIn w da dn ws) (hrj : RowE 3 jbC w ja jn js) : Calls Try.prog 25 #[.agg #[.int .i64 fr, .int .i64 pa, .slice da dn dc], .slice ja jn jc, .int .i64 tk] w fun e w' => ∃ (a1 : Option Addr) (c1 : Nat), e = .returned (.tuple #[.slice a1 (rjL fr pa ws js tk).length c1, .int .i64 (rjI fr pa ws js tk), .bool (rjB fr pa ws js tk)]) ∧ OwnI w' w.heap.size (.slice a1 (rjL fr pa ws js tk).length c1) (rjL fr pa ws js tk) ∧ Below w.heap.size w w' := specRunJobs_is fr pa da dn dc ws ja jn jc js tk w hr.r1 hrj
theorem implRunJobs_any (fr pa : Int) (da : Option Addr) (dn dc : Nat) (ws : List Wn) (ja : Option Addr) (jn jc : Nat) (js : List Jb) (tk : Int) (w : World) (hr : PpIn w da dn ws) (hrj : RowE 3 jbC w ja jn js) : Calls Try.prog 27 #[.agg #[.int .i64 fr, .int .i64 pa, .slice da dn dc], .slice ja jn jc, .int .i64 tk] w fun e w' => ∃ (a1 : Option Addr) (c1 : Nat), e = .returned (.tuple #[.slice a1 (rjL fr pa ws js tk).length c1, .int .i64 (rjI fr pa ws js tk), .bool (rjB fr pa ws js tk)]) ∧ OwnI w' w.heap.size (.slice a1 (rjL fr pa ws js tk).length c1) (rjL fr pa ws js tk) ∧ Below w.heap.size w w' := implRunJobs_is fr pa da dn dc ws ja jn jc js tk w hr.r1 hrj

end Go.Proofs.Ytndhiecakojjgaz
