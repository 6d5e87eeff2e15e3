/-
  FnExactThreatSaid: at every own aircraft, track and numbers Threat answers as the specification. No condition.
-/
import Derived.Test.YtbaocifpifbldaxOpen
import Derived.Test.YtbaocifpifbldaxOpenE
import Derived.Test.YtbaocifpifbldaxArr6
import Derived.Test.YtbaocifpifbldaxLawThreat
namespace Go.Proofs.Ytbaocifpifbldax
open Go.ChangeShapes Go.WideShapes Go.ChangeAt Go.RowKit Go.Joins

set_option maxRecDepth 100000 in
theorem threat_lifted (os : Os) (started : os.Started) (H : Type) (enc : TypeId × Value → H) :
    ReturnsInHanded {} Try.checked os 4 .any (Rows.fnExactThreatSpec.pre6 enc Try.prog Try.f4 Rows.fnExactThreatRow.domain false) (Rows.fnExactThreatSpec.post enc Try.prog Try.f4 false true false false) := by
  refine returnsInHanded_of_change (C := Try.checked) own started (by kernel_rfl) Try.func4
    (ChangeSpec.witness6 (enc := enc) (C := Try.checked) false ⟨#[], #[.agg #[.int .i64 0, .int .i64 0, .int .i64 0, .int .i64 0], .agg #[.int .i64 0, .int .i64 0, .int .i64 0, .int .i64 0, .int .i64 0, .int .i64 0], .int .i64 0, .int .i64 0], []⟩ 8 (by kernel_rfl) (by kernel_rfl) (by kernel_rfl) (by kernel_rfl)) ?_
  intro W base args ds gs before hval0 hW hcnd _
  have hval : ∀ (j : Nat) t v, Try.f4.params[j]? = some t → args[j]? = some v → Value.okWide Try.prog W .any base t v := hval0
  have hW' := hW
  obtain ⟨p, q, hA0, hV, rfl, hfz, hnd⟩ := hW
  have hA : DataW.TrodAll enc Try.prog W 0 (fun _ => true) true Try.f4.params.toList args.toList ds p := hA0
  rw [Try.params4] at hA hval
  obtain ⟨v0, vs0, d0, ds0, p0, q0, hargs, rfl, rfl, h0, r0⟩ := trodAll_cons hA
  obtain ⟨v1, vs1, d1, ds1, p1, q1, rfl, rfl, rfl, h1, r1⟩ := trodAll_cons r0
  obtain ⟨v2, vs2, d2, ds2, p2, q2, rfl, rfl, rfl, h2, r2⟩ := trodAll_cons r1
  obtain ⟨v3, vs3, d3, ds3, p3, q3, rfl, rfl, rfl, h3, r3⟩ := trodAll_cons r2
  obtain ⟨rfl, rfl, rfl⟩ := trodAll_nil r3
  obtain rfl : args = #[v0, v1, v2, v3] := by cases args; simp_all
  obtain ⟨rfl, rfl⟩ := trodVars_none hV
  have k0 := h0
  have lt0 : ∀ x ∈ p0, x.block < W.heap.size := by obtain ⟨m, hm⟩ := k0; exact DataW.trod_lt m _ _ _ hm
  obtain ⟨cs0, m0, rfl, sz0, hf0⟩ := agg_of1 Try.underlying30 (by kernel_rfl) (by kernel_rfl) (hval 0 30 v0 rfl rfl) h0
  obtain ⟨c00, y00, e00, hy00⟩ := hf0 0 _ rfl
  obtain ⟨b00, ei00, _, wi00⟩ := DataW.trod_int Try.underlying3 hy00
  simp only [List.cons.injEq, and_true] at ei00
  subst ei00
  obtain ⟨c01, y01, e01, hy01⟩ := hf0 1 _ rfl
  obtain ⟨b01, ei01, _, wi01⟩ := DataW.trod_int Try.underlying3 hy01
  simp only [List.cons.injEq, and_true] at ei01
  subst ei01
  obtain ⟨c02, y02, e02, hy02⟩ := hf0 2 _ rfl
  obtain ⟨b02, ei02, _, wi02⟩ := DataW.trod_int Try.underlying3 hy02
  simp only [List.cons.injEq, and_true] at ei02
  subst ei02
  obtain ⟨c03, y03, e03, hy03⟩ := hf0 3 _ rfl
  obtain ⟨b03, ei03, _, wi03⟩ := DataW.trod_int Try.underlying3 hy03
  simp only [List.cons.injEq, and_true] at ei03
  subst ei03
  obtain rfl := arr4 cs0 (by simpa using sz0) e00 e01 e02 e03
  have k1 := h1
  have lt1 : ∀ x ∈ p1, x.block < W.heap.size := by obtain ⟨m, hm⟩ := k1; exact DataW.trod_lt m _ _ _ hm
  obtain ⟨cs1, m1, rfl, sz1, hf1⟩ := agg_of1 Try.underlying23 (by kernel_rfl) (by kernel_rfl) (hval 1 23 v1 rfl rfl) h1
  obtain ⟨c10, y10, e10, hy10⟩ := hf1 0 _ rfl
  obtain ⟨b10, ei10, _, wi10⟩ := DataW.trod_int Try.underlying3 hy10
  simp only [List.cons.injEq, and_true] at ei10
  subst ei10
  obtain ⟨c11, y11, e11, hy11⟩ := hf1 1 _ rfl
  obtain ⟨b11, ei11, _, wi11⟩ := DataW.trod_int Try.underlying3 hy11
  simp only [List.cons.injEq, and_true] at ei11
  subst ei11
  obtain ⟨c12, y12, e12, hy12⟩ := hf1 2 _ rfl
  obtain ⟨b12, ei12, _, wi12⟩ := DataW.trod_int Try.underlying3 hy12
  simp only [List.cons.injEq, and_true] at ei12
  subst ei12
  obtain ⟨c13, y13, e13, hy13⟩ := hf1 3 _ rfl
  obtain ⟨b13, ei13, _, wi13⟩ := DataW.trod_int Try.underlying3 hy13
  simp only [List.cons.injEq, and_true] at ei13
  subst ei13
  obtain ⟨c14, y14, e14, hy14⟩ := hf1 4 _ rfl
  obtain ⟨b14, ei14, _, wi14⟩ := DataW.trod_int Try.underlying3 hy14
  simp only [List.cons.injEq, and_true] at ei14
  subst ei14
  obtain ⟨c15, y15, e15, hy15⟩ := hf1 5 _ rfl
  obtain ⟨b15, ei15, _, wi15⟩ := DataW.trod_int Try.underlying3 hy15
  simp only [List.cons.injEq, and_true] at ei15
  subst ei15
  obtain rfl := arr6 cs1 (by simpa using sz1) e10 e11 e12 e13 e14 e15
  obtain ⟨x2, rfl, rfl, rfl, wi2⟩ := open_int Try.underlying3 (hval 2 3 v2 rfl rfl) h2
  obtain ⟨x3, rfl, rfl, rfl, wi3⟩ := open_int Try.underlying3 (hval 3 3 v3 rfl rfl) h3
  clear hA0 hval0
  refine (lawThreat b00 b01 b02 b03 b10 b11 b12 b13 b14 b15 x2 x3 W ).mono fun e W' ⟨he, bel⟩ => ?_
  subst he
  exact ⟨_, rfl, _, _, _, [], _, [], hW', trodAll_mk1 (shut_bool Try.underlying4 _), (trodAll_cons_mk (Below.trod laidOut (by kernel_rfl) (of_decide_eq_true (by kernel_rfl)) k0 bel lt0) (trodAll_cons_mk (Below.trod laidOut (by kernel_rfl) (of_decide_eq_true (by kernel_rfl)) k1 bel lt1) (trodAll_cons_mk (shut_int Try.underlying3 wi2) (trodAll_cons_mk (shut_int Try.underlying3 wi3) trodAll_mk0)))), rfl, bel.frame _, fun h => by cases h⟩

theorem threat_holds : Rows.FnExactThreatSaid :=
  OpenClaim.holds_of_wide 4 Try.f4 rfl rfl rfl rfl rfl rfl rfl ⟨rfl, rfl, rfl, rfl, rfl⟩ rfl rfl rfl rfl rfl (by kernel_rfl) Try.func4 (by kernel_rfl)
    (of_decide_eq_true (by kernel_rfl)) (by unfold Func.isWrapper; first | (rw [if_pos (by decide +kernel)]; kernel_rfl) | (rw [if_neg (by decide +kernel)]; exact ⟨rfl, rfl⟩))
    (fun os started H enc _ => threat_lifted os started H enc)
#print axioms threat_holds
end Go.Proofs.Ytbaocifpifbldax
