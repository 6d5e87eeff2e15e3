/-
  A crack in a block of its own: its three numbers; the law's copy of it; whether it is so, in the model and in the program. No condition.
-/
import Derived.Test.YtnpohiceefkhdacSmall
import Derived.Test.YtnpohiceefkhdacBlk
import Derived.Test.YtnpohiceefkhdacCrackPure
namespace Go.Proofs.Ytnpohiceefkhdac
open Go.RowKit

/-- A crack's three numbers in a block of its own. -/
abbrev Ck (w : World) (B : Nat) (n l g : Int) : Prop := Blk w B [.int .i64 n, .int .i64 l, .int .i64 g]
theorem ck_set0 {w : World} {B : Nat} {n l g : Int} (h : Ck w B n l g) (m : Int) : Ck (w.setCell ⟨B, 0, none⟩ (.int .i64 m)) B m l g := h.set 0 (by simp) _
theorem ck_set3 {w : World} {B : Nat} {n l g : Int} (h : Ck w B n l g) (n' l' g' : Int) :
    Ck (((w.setCell ⟨B, 0, none⟩ (.int .i64 n')).setCell ⟨B, 1, none⟩ (.int .i64 l')).setCell ⟨B, 2, none⟩ (.int .i64 g')) B n' l' g' :=
  ((h.set 0 (by simp) (.int .i64 n')).set 1 (by simp) (.int .i64 l')).set 2 (by simp) (.int .i64 g')

set_option maxHeartbeats 1000000 in
theorem crackOk_any (n l g : Int) (w : World) :
    Calls Try.prog 11 #[.agg #[.int .i64 n, .int .i64 l, .int .i64 g]] w fun x w' => x = .returned (.bool (crackB n l g)) ∧ Below w.heap.size w w' := by
  rcases three (inB l 0 1000000) (inB n 0 l) (inB g 1 100) with ⟨h, _⟩ | ⟨h, h', _⟩ | ⟨h, h', h'', _⟩ | ⟨h, h', h'', _⟩
  all_goals
    have HE : Hid (crackB n l g = (inB l 0 1000000 && inB n 0 l && inB g 1 100)) := hide (by unfold crackB; rw [Bool.and_comm (inB n 0 l)])
    go_enter Try.func11, Try.ntmps11
    go_wp2_with (go_at_call 13; refine (within_any _ _ _ _).mono ?_; rintro e w' ⟨rfl, hw⟩; subst w')
    go_ret
    exact ⟨ret_bool (by rw [unhide HE]; simp [*]), bel1 _⟩
theorem crackOk_is {c : Bool} (n l g : Int) (w : World) (hc : crackB n l g = c) :
    Calls Try.prog 11 #[.agg #[.int .i64 n, .int .i64 l, .int .i64 g]] w fun x w' => x = .returned (.bool c) ∧ Below w.heap.size w w' := by
  subst hc; exact crackOk_any n l g w

end Go.Proofs.Ytnpohiceefkhdac
