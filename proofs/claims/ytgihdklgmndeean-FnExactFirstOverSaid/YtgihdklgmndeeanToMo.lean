/-
  The law's copy and comparison of a Motion: of one value it says so. No condition.
-/
import Derived.Test.YtgihdklgmndeeanChecked
import Derived.Test.YtgihdklgmndeeanSameFl
import Derived.Test.YtgihdklgmndeeanRowE
namespace Go.Proofs.Ytgihdklgmndeean
open Go.RowKit
attribute [local go_sem] run_store_float

/-- What a Motion holds. -/
structure Mo where
  a0 : Nat
  a1 : Nat
  a2 : Nat
  a3 : Nat
instance : Inhabited Mo := ⟨⟨0, 0, 0, 0⟩⟩
/-- Its cells. -/
def moC (m : Mo) : Nat → Value
  | 0 => .float .f64 m.a0
  | 1 => .float .f64 m.a1
  | 2 => .float .f64 m.a2
  | _ => .float .f64 m.a3
def moAlike (m n : Mo) : Prop := Alike .f64 m.a0 n.a0 ∧ Alike .f64 m.a1 n.a1 ∧ Alike .f64 m.a2 n.a2 ∧ Alike .f64 m.a3 n.a3
theorem moAlike_refl (m : Mo) : moAlike m m := ⟨.refl _ _, .refl _ _, .refl _ _, .refl _ _⟩
theorem moAlike.symm {m n : Mo} (h : moAlike m n) : moAlike n m := ⟨h.1.symm, h.2.1.symm, h.2.2.1.symm, h.2.2.2.symm⟩
theorem moAlike.trans {m n l : Mo} (h : moAlike m n) (g : moAlike n l) : moAlike m l := ⟨h.1.trans g.1, h.2.1.trans g.2.1, h.2.2.1.trans g.2.2.1, h.2.2.2.trans g.2.2.2⟩

set_option maxHeartbeats 1000000 in
theorem toMotion_any (a0 : Nat) (a1 : Nat) (a2 : Nat) (a3 : Nat) (w : World) :
    Calls Try.prog 10 #[.agg #[.float .f64 a0, .float .f64 a1, .float .f64 a2, .float .f64 a3]] w fun e w' => e = .returned (.agg #[.float .f64 a0, .float .f64 a1, .float .f64 a2, .float .f64 a3]) ∧ Below w.heap.size w w' := by
  go_enter Try.func10, Try.ntmps10
  go_wp2
  refine bodyPost_ret (v := .agg #[.float .f64 a0, .float .f64 a1, .float .f64 a2, .float .f64 a3]) (by simp [results, Try.results10, go_sem]) rfl ⟨rfl, ?_⟩
  repeat (first | exact bel3 _ _ _ | refine Below.setCell ?_ (by simp; try omega) _)

set_option maxHeartbeats 1000000 in
theorem eqMotion_alike (a0 : Nat) (a1 : Nat) (a2 : Nat) (a3 : Nat) (b0 : Nat) (b1 : Nat) (b2 : Nat) (b3 : Nat) (w : World) (h : moAlike ⟨a0, a1, a2, a3⟩ ⟨b0, b1, b2, b3⟩) :
    Calls Try.prog 35 #[.agg #[.float .f64 a0, .float .f64 a1, .float .f64 a2, .float .f64 a3], .agg #[.float .f64 b0, .float .f64 b1, .float .f64 b2, .float .f64 b3]] w fun e w' => e = .returned (.bool true) ∧ Below w.heap.size w w' := by
  obtain ⟨h0, h1, h2, h3⟩ := h
  have H0 : Hid (Alike .f64 a0 b0) := hide h0
  clear h0
  have H1 : Hid (Alike .f64 a1 b1) := hide h1
  clear h1
  have H2 : Hid (Alike .f64 a2 b2) := hide h2
  clear h2
  have H3 : Hid (Alike .f64 a3 b3) := hide h3
  clear h3
  go_enter Try.func35, Try.ntmps35
  go_wp2_with fail
  refine (sameFloat_alike _ _ _ (unhide H0)).mono ?_
  rintro e w1 ⟨rfl, n0, rfl⟩
  go_wp2_with fail
  refine (sameFloat_alike _ _ _ (unhide H1)).mono ?_
  rintro e w1 ⟨rfl, n1, rfl⟩
  go_wp2_with fail
  refine (sameFloat_alike _ _ _ (unhide H2)).mono ?_
  rintro e w1 ⟨rfl, n2, rfl⟩
  go_wp2_with fail
  refine (sameFloat_alike _ _ _ (unhide H3)).mono ?_
  rintro e w1 ⟨rfl, n3, rfl⟩
  go_wp2_with fail
  go_ret
  exact ⟨rfl, by simpa using bel2d _ _ _⟩

end Go.Proofs.Ytgihdklgmndeean
