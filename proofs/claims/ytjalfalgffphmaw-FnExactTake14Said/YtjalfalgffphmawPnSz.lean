/-
  The law's size of a panel. Nothing that was there is written.
-/
import Derived.Test.YtjalfalgffphmawPnTo
namespace Go.Proofs.Ytjalfalgffphmaw
open Go.RowKit

def txFit (len : Nat) (ts : List ByteArray) : Prop := ∀ i, i < len → (elAt ts i).size ≤ 9223372036854775807
set_option maxRecDepth 20000 in
set_option maxHeartbeats 1000000 in
theorem szPanel_any (a1 a2 a3 : Option Addr) (l1 c1 l2 c2 l3 c3 : Nat) (z1 z2 z3 : List ByteArray) (left : Int) (w : World) (hr : PnIn w a1 a2 a3 l1 l2 l3 z1 z2 z3) (f1 : txFit l1 z1) (f2 : txFit l2 z2) (f3 : txFit l3 z3) (h0 : 0 ≤ left) (h1 : left ≤ 1048576) :
    Calls Try.prog 7 #[.agg #[.slice a1 l1 c1, .slice a2 l2 c2, .slice a3 l3 c3], .int .i64 left] w fun e w' => (∃ r : Int, e = .returned (.int .i64 r) ∧ (r < 0 ∨ (0 ≤ r ∧ r ≤ left ∧ l1 ≤ 1048576 ∧ l2 ≤ 1048576 ∧ l3 ≤ 1048576))) ∧ Below w.heap.size w w' := by
  have HR := hide (hr.below (bel1 (Obj.cells #[.slice a1 l1 c1, .slice a2 l2 c2, .slice a3 l3 c3] 25)))
  have F1 := hide f1
  have F2 := hide f2
  have F3 := hide f3
  clear hr f1 f2 f3
  go_enter Try.func7, Try.ntmps7
  go_wp2_with fail
  refine (szStringS_any _ _ _ z1 left _ (unhide HR).r1 (unhide F1) (by omega) (by omega)).mono ?_
  rintro e w' ⟨⟨r1, rfl, hr1⟩, hw⟩
  subst w'
  rcases hr1 with hr1 | ⟨p1, p2, p3⟩
  · go_wp2_with fail
    go_ret
    exact ⟨⟨_, rfl, .inl (by omega)⟩, bel1 _⟩
  have n1 : ¬ r1 < 0 := by omega
  go_wp2_with fail
  refine (szStringS_any _ _ _ z2 r1 _ (unhide HR).r2 (unhide F2) (by omega) (by omega)).mono ?_
  rintro e w' ⟨⟨r2, rfl, hr2⟩, hw⟩
  subst w'
  rcases hr2 with hr2 | ⟨p4, p5, p6⟩
  · go_wp2_with fail
    go_ret
    exact ⟨⟨_, rfl, .inl (by omega)⟩, bel1 _⟩
  have n2 : ¬ r2 < 0 := by omega
  go_wp2_with fail
  refine (szStringS_any _ _ _ z3 r2 _ (unhide HR).r3 (unhide F3) (by omega) (by omega)).mono ?_
  rintro e w' ⟨⟨r3, rfl, hr3⟩, hw⟩
  subst w'
  rcases hr3 with hr3 | ⟨p7, p8, p9⟩
  · go_wp2_with fail
    go_ret
    exact ⟨⟨_, rfl, .inl (by omega)⟩, bel1 _⟩
  have n3 : ¬ r3 < 0 := by omega
  go_wp2_with fail
  go_ret
  exact ⟨⟨_, rfl, .inr ⟨by omega, by omega, by omega, by omega, by omega⟩⟩, bel1 _⟩

end Go.Proofs.Ytjalfalgffphmaw
