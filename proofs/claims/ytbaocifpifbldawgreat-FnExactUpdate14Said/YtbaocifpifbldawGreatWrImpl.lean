/-
  What the program's RulesOk, Inhibited and Loudest answer: the plain answers; nothing that was there is written.
-/
import Derived.Test.YtbaocifpifbldawGreatWbOf
namespace Go.Proofs.YtbaocifpifbldawGreat
open Go.RowKit Go.Maps Go.WideMaps

set_option maxHeartbeats 1000000 in
theorem phaseOk_is {c : Bool} (x : Int) (w : World) (hc : inB x 0 9 = c) :
    Calls Tryz.prog 31 #[.int .i64 x] w fun e w' => e = .returned (.bool c) ∧ w' = w := by
  go_enter Tryz.func31, Tryz.ntmps31
  go_wp2_with (go_at_call 51; refine (within_is _ _ _ _ hc).mono ?_; rintro e w' ⟨rfl, hw⟩; subst w')
  go_ret
  exact ⟨rfl, rfl⟩
theorem quietIn_is {c : Bool} (qa : Option Addr) (ql qc : Nat) (x : ByteArray) (r : Int) (q : List Int) (l : Bool) (d : ByteArray) (ph : Int) (w : World) (hr : Row w qa ql q) (hc : qtB q ph = c) :
    Calls Tryz.prog 64 #[.agg #[.string x, .int .i64 r, .slice qa ql qc, .bool l, .string d], .int .i64 ph] w fun e w' => e = .returned (.bool c) ∧ Below w.heap.size w w' := by
  subst hc; exact quietIn_any qa ql qc ⟨x, r, q, l, d⟩ ph w hr

end Go.Proofs.YtbaocifpifbldawGreat
