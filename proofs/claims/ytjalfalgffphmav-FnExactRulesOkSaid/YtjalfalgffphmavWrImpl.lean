/-
  What the program's RulesOk, Inhibited and Loudest answer: the plain answers; nothing that was there is written.
-/
import Derived.Test.YtjalfalgffphmavWbOf
namespace Go.Proofs.Ytjalfalgffphmav
open Go.RowKit Go.Maps Go.WideMaps

set_option maxHeartbeats 1000000 in
theorem implRulesOk_any (ad : Option Addr) (len cap : Nat) (rs : List Wr) (w : World) (hr : RowW w ad len rs) (_hl : len ≤ 1048576) :
    Calls Try.prog 30 #[.slice ad len cap] w fun e w' => e = .returned (.bool (wrB rs)) ∧ Below w.heap.size w w' := by
  obtain ⟨qs, hv⟩ := hr.v
  have HV := hide hv
  clear hr hv
  go_enter Try.func30, Try.ntmps30
  go_wp2_with (go_at_call 52; refine (bookOf_any _ _ _ rs qs _ (unhide HV)).mono ?_; rintro e w1 ⟨n, F, rfl, _, _, _, _, b1⟩; have B1 := hide b1; clear b1)
  go_ret
  exact ⟨rfl, unhide B1⟩
theorem implRulesOk_is {c : Bool} (ad : Option Addr) (len cap : Nat) (rs : List Wr) (w : World) (hr : RowW w ad len rs) (hl : len ≤ 1048576) (hc : wrB rs = c) :
    Calls Try.prog 30 #[.slice ad len cap] w fun e w' => e = .returned (.bool c) ∧ Below w.heap.size w w' := by subst hc; exact implRulesOk_any ad len cap rs w hr hl

end Go.Proofs.Ytjalfalgffphmav
