/-
  FnExactStepOnceSaid: at every motion, all forces, every elevator and every dt StepOnce answers as the specification.
-/
import Derived.Test.YtgihdklgmndeeamOpenF
import Derived.Test.YtgihdklgmndeeamOpenMo
import Derived.Test.YtgihdklgmndeeamLawStepOnce
namespace Go.Proofs.Ytgihdklgmndeeam
open Go.ChangeShapes Go.WideShapes Go.ChangeAt Go.RowKit Go.Joins

set_option maxRecDepth 100000 in
theorem stepOnce_lifted (os : Os) (started : os.Started) (H : Type) (enc : TypeId × Value → H) :
    ReturnsInHanded {} Try.checked os 8 .any (Rows.fnExactStepOnceSpec.pre6 enc Try.prog Try.f8 Rows.fnExactStepOnceRow.domain false) (Rows.fnExactStepOnceSpec.post enc Try.prog Try.f8 false true false false) := by
  refine returnsInHanded_of_change (C := Try.checked) ownF started (by kernel_rfl) Try.func8
    (ChangeSpec.witness6 (enc := enc) (C := Try.checked) false ⟨#[], #[.agg #[.float .f64 0, .float .f64 0, .float .f64 0, .float .f64 0], .agg #[.float .f64 0, .float .f64 0, .float .f64 0, .float .f64 0, .float .f64 0], .float .f64 0, .float .f64 0], []⟩ 8 (by kernel_rfl) (by kernel_rfl) (by kernel_rfl) (by kernel_rfl)) ?_
  intro W base args ds gs before hval0 hW hcnd _
  have hval : ∀ (j : Nat) t v, Try.f8.params[j]? = some t → args[j]? = some v → Value.okWide Try.prog W .any base t v := hval0
  have hW' := hW
  obtain ⟨p, q, hA0, hV, rfl, hfz, hnd⟩ := hW
  have hA : DataW.TrodAll enc Try.prog W 0 (fun _ => true) true Try.f8.params.toList args.toList ds p := hA0
  rw [Try.params8] at hA hval
  obtain ⟨v0, vs0, d0, ds0, p0, q0, hargs, rfl, rfl, h0, r0⟩ := trodAll_cons hA
  obtain ⟨v1, vs1, d1, ds1, p1, q1, rfl, rfl, rfl, h1, r1⟩ := trodAll_cons r0
  obtain ⟨v2, vs2, d2, ds2, p2, q2, rfl, rfl, rfl, h2, r2⟩ := trodAll_cons r1
  obtain ⟨v3, vs3, d3, ds3, p3, q3, rfl, rfl, rfl, h3, r3⟩ := trodAll_cons r2
  obtain ⟨rfl, rfl, rfl⟩ := trodAll_nil r3
  obtain rfl : args = #[v0, v1, v2, v3] := by cases args; simp_all
  obtain ⟨rfl, rfl⟩ := trodVars_none hV
  have k0 := h0
  have lt0 : ∀ x ∈ p0, x.block < W.heap.size := by obtain ⟨m, hm⟩ := k0; exact DataW.trod_lt m _ _ _ hm
  obtain ⟨cs0, m0, rfl, sz0, hf0⟩ := agg_of1 Try.underlying52 (by kernel_rfl) (by kernel_rfl) (hval 0 52 v0 rfl rfl) h0
  obtain ⟨c00, y00, e00, hy00⟩ := hf0 0 _ rfl
  obtain ⟨b00, ei00, _, _⟩ := trod_float Try.underlying23 hy00
  simp only [List.cons.injEq, and_true] at ei00
  subst ei00
  obtain ⟨c01, y01, e01, hy01⟩ := hf0 1 _ rfl
  obtain ⟨b01, ei01, _, _⟩ := trod_float Try.underlying23 hy01
  simp only [List.cons.injEq, and_true] at ei01
  subst ei01
  obtain ⟨c02, y02, e02, hy02⟩ := hf0 2 _ rfl
  obtain ⟨b02, ei02, _, _⟩ := trod_float Try.underlying23 hy02
  simp only [List.cons.injEq, and_true] at ei02
  subst ei02
  obtain ⟨c03, y03, e03, hy03⟩ := hf0 3 _ rfl
  obtain ⟨b03, ei03, _, _⟩ := trod_float Try.underlying23 hy03
  simp only [List.cons.injEq, and_true] at ei03
  subst ei03
  obtain rfl := arr4 cs0 (by simpa using sz0) e00 e01 e02 e03
  have k1 := h1
  have lt1 : ∀ x ∈ p1, x.block < W.heap.size := by obtain ⟨m, hm⟩ := k1; exact DataW.trod_lt m _ _ _ hm
  obtain ⟨cs1, m1, rfl, sz1, hf1⟩ := agg_of1 Try.underlying54 (by kernel_rfl) (by kernel_rfl) (hval 1 54 v1 rfl rfl) h1
  obtain ⟨c10, y10, e10, hy10⟩ := hf1 0 _ rfl
  obtain ⟨b10, ei10, _, _⟩ := trod_float Try.underlying23 hy10
  simp only [List.cons.injEq, and_true] at ei10
  subst ei10
  obtain ⟨c11, y11, e11, hy11⟩ := hf1 1 _ rfl
  obtain ⟨b11, ei11, _, _⟩ := trod_float Try.underlying23 hy11
  simp only [List.cons.injEq, and_true] at ei11
  subst ei11
  obtain ⟨c12, y12, e12, hy12⟩ := hf1 2 _ rfl
  obtain ⟨b12, ei12, _, _⟩ := trod_float Try.underlying23 hy12
  simp only [List.cons.injEq, and_true] at ei12
  subst ei12
  obtain ⟨c13, y13, e13, hy13⟩ := hf1 3 _ rfl
  obtain ⟨b13, ei13, _, _⟩ := trod_float Try.underlying23 hy13
  simp only [List.cons.injEq, and_true] at ei13
  subst ei13
  obtain ⟨c14, y14, e14, hy14⟩ := hf1 4 _ rfl
  obtain ⟨b14, ei14, _, _⟩ := trod_float Try.underlying23 hy14
  simp only [List.cons.injEq, and_true] at ei14
  subst ei14
  obtain rfl := arr5 cs1 (by simpa using sz1) e10 e11 e12 e13 e14
  have k2 := h2
  have lt2 : ∀ x ∈ p2, x.block < W.heap.size := by obtain ⟨m, hm⟩ := k2; exact DataW.trod_lt m _ _ _ hm
  obtain ⟨x2, rfl, _⟩ := open_float Try.underlying23 (hval 2 23 v2 rfl rfl) h2
  have k3 := h3
  have lt3 : ∀ x ∈ p3, x.block < W.heap.size := by obtain ⟨m, hm⟩ := k3; exact DataW.trod_lt m _ _ _ hm
  obtain ⟨x3, rfl, _⟩ := open_float Try.underlying23 (hval 3 23 v3 rfl rfl) h3
  clear hA0 hval0
  refine (lawStepOnce b00 b01 b02 b03 b10 b11 b12 b13 b14 x2 x3 W ).mono fun e W' ⟨he, bel⟩ => ?_
  subst he
  exact ⟨_, rfl, _, _, _, [], _, [], hW', trodAll_mk1 (shut_bool Try.underlying4 _), (trodAll_cons_mk (Below.trod laidOutF (by kernel_rfl) (of_decide_eq_true (by kernel_rfl)) k0 bel lt0) (trodAll_cons_mk (Below.trod laidOutF (by kernel_rfl) (of_decide_eq_true (by kernel_rfl)) k1 bel lt1) (trodAll_cons_mk (Below.trod laidOutF (by kernel_rfl) (of_decide_eq_true (by kernel_rfl)) k2 bel lt2) (trodAll_cons_mk (Below.trod laidOutF (by kernel_rfl) (of_decide_eq_true (by kernel_rfl)) k3 bel lt3) trodAll_mk0)))), rfl, bel.frame _, fun h => by cases h⟩

theorem stepOnce_holds : Rows.FnExactStepOnceSaid :=
  OpenClaim.holds_of_wide 8 Try.f8 rfl rfl rfl rfl rfl rfl rfl ⟨rfl, rfl, rfl, rfl, rfl⟩ rfl rfl rfl rfl rfl (by kernel_rfl) Try.func8 (by kernel_rfl)
    (of_decide_eq_true (by kernel_rfl)) (by unfold Func.isWrapper; first | (rw [if_pos (by decide +kernel)]; kernel_rfl) | (rw [if_neg (by decide +kernel)]; exact ⟨rfl, rfl⟩))
    (fun os started H enc _ => stepOnce_lifted os started H enc)
#print axioms stepOnce_holds
end Go.Proofs.Ytgihdklgmndeeam
