/-
  A crack in a block of its own: its three numbers; the law's copy of it; whether it is so, in the model and in the program. No condition.
-/
import Derived.Test.YtnpohiceefkhdaoSmall
import Derived.Test.YtnpohiceefkhdaoBlk
import Derived.Test.YtnpohiceefkhdaoCrackPure
namespace Go.Proofs.Ytnpohiceefkhdao
open Go.RowKit

/-- A crack's three numbers in a block of its own. -/
abbrev Ck (w : World) (B : Nat) (n l g : Int) : Prop := Blk w B [.int .i64 n, .int .i64 l, .int .i64 g]
theorem ck_set0 {w : World} {B : Nat} {n l g : Int} (h : Ck w B n l g) (m : Int) : Ck (w.setCell ⟨B, 0, none⟩ (.int .i64 m)) B m l g := h.set 0 (by simp) _
theorem ck_set3 {w : World} {B : Nat} {n l g : Int} (h : Ck w B n l g) (n' l' g' : Int) :
    Ck (((w.setCell ⟨B, 0, none⟩ (.int .i64 n')).setCell ⟨B, 1, none⟩ (.int .i64 l')).setCell ⟨B, 2, none⟩ (.int .i64 g')) B n' l' g' :=
  ((h.set 0 (by simp) (.int .i64 n')).set 1 (by simp) (.int .i64 l')).set 2 (by simp) (.int .i64 g')

set_option maxHeartbeats 1000000 in
theorem toCrack_any (n l g : Int) (w : World) :
    Calls Try.prog 13 #[.agg #[.int .i64 n, .int .i64 l, .int .i64 g]] w fun x w' => x = .returned (.agg #[.int .i64 n, .int .i64 l, .int .i64 g]) ∧ Below w.heap.size w w' := by
  go_enter Try.func13, Try.ntmps13
  go_wp2
  refine bodyPost_ret (v := .agg #[.int .i64 n, .int .i64 l, .int .i64 g]) (by simp [results, Try.results13, go_sem]) rfl ⟨rfl, ?_⟩
  repeat (first | exact Below.refl _ _ | refine Below.setCell ?_ (by simp; try omega) _ | refine Below.alloc ?_ (by simp; try omega) _)

set_option maxHeartbeats 1000000 in
theorem l6Crack_any (n l g : Int) (w : World) :
    Calls Try.prog 38 #[.agg #[.int .i64 n, .int .i64 l, .int .i64 g]] w fun x w' => x = .returned (.bool (crackB n l g)) ∧ Below w.heap.size w w' := by
  cases h1 : inB n 0 l with
  | false =>
    have HE := hide (crackB_n (n := n) (l := l) (g := g) h1)
    go_enter Try.func38, Try.ntmps38
    go_wp2_with (go_at_call 41; refine (l1In_any _ _ _ _).mono ?_; rintro e w' ⟨rfl, hw⟩; subst w')
    go_ret
    exact ⟨ret_bool (unhide HE).symm, bel1 _⟩
  | true =>
    by_cases h2 : l ≤ 1000000
    · cases h3 : inB g 1 100 with
      | false =>
        have HE := hide (crackB_g (n := n) (l := l) (g := g) h3)
        go_enter Try.func38, Try.ntmps38
        go_wp2_with (go_at_call 41; refine (l1In_any _ _ _ _).mono ?_; rintro e w' ⟨rfl, hw⟩; subst w')
        go_ret
        exact ⟨ret_bool (unhide HE).symm, bel1 _⟩
      | true =>
        have HE := hide (crackB_true h1 h2 h3)
        go_enter Try.func38, Try.ntmps38
        go_wp2_with (go_at_call 41; refine (l1In_any _ _ _ _).mono ?_; rintro e w' ⟨rfl, hw⟩; subst w')
        go_ret
        exact ⟨ret_bool (unhide HE).symm, bel1 _⟩
    · have HE := hide (crackB_l' (n := n) (l := l) (g := g) (by omega))
      go_enter Try.func38, Try.ntmps38
      go_wp2_with (go_at_call 41; refine (l1In_any _ _ _ _).mono ?_; rintro e w' ⟨rfl, hw⟩; subst w')
      go_ret
      exact ⟨ret_bool (unhide HE).symm, bel1 _⟩
theorem l6Crack_is {c : Bool} (n l g : Int) (w : World) (hc : crackB n l g = c) :
    Calls Try.prog 38 #[.agg #[.int .i64 n, .int .i64 l, .int .i64 g]] w fun x w' => x = .returned (.bool c) ∧ Below w.heap.size w w' := by
  subst hc; exact l6Crack_any n l g w

set_option maxHeartbeats 1000000 in
theorem crackOk_any (n l g : Int) (w : World) :
    Calls Try.prog 39 #[.agg #[.int .i64 n, .int .i64 l, .int .i64 g]] w fun x w' => x = .returned (.bool (crackB n l g)) ∧ Below w.heap.size w w' := by
  rcases three (inB l 0 1000000) (inB n 0 l) (inB g 1 100) with ⟨h, _⟩ | ⟨h, h', _⟩ | ⟨h, h', h'', _⟩ | ⟨h, h', h'', _⟩
  all_goals
    have HE : Hid (crackB n l g = (inB l 0 1000000 && inB n 0 l && inB g 1 100)) := hide (by unfold crackB; rw [Bool.and_comm (inB n 0 l)])
    go_enter Try.func39, Try.ntmps39
    go_wp2_with (go_at_call 42; refine (within_any _ _ _ _).mono ?_; rintro e w' ⟨rfl, hw⟩; subst w')
    go_ret
    exact ⟨ret_bool (by rw [unhide HE]; simp [*]), bel1 _⟩
theorem crackOk_is {c : Bool} (n l g : Int) (w : World) (hc : crackB n l g = c) :
    Calls Try.prog 39 #[.agg #[.int .i64 n, .int .i64 l, .int .i64 g]] w fun x w' => x = .returned (.bool c) ∧ Below w.heap.size w w' := by
  subst hc; exact crackOk_any n l g w

end Go.Proofs.Ytnpohiceefkhdao
