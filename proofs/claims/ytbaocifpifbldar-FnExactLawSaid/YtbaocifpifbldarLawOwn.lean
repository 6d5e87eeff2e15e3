/-
  FnExactLawSaid: at every mode, gain, stick, limits and place Law answers as the specification, and writes nothing of what it was given
-/
import Derived.Test.YtbaocifpifbldarOpen
import Derived.Test.YtbaocifpifbldarOpenE
import Derived.Test.YtbaocifpifbldarArr
import Derived.Test.YtbaocifpifbldarLawLaw
namespace Go.Proofs.Ytbaocifpifbldar
open Go.ChangeShapes Go.WideShapes Go.ChangeAt Go.RowKit Go.Joins

set_option maxRecDepth 100000 in
theorem law_lifted (os : Os) (started : os.Started) (H : Type) (enc : TypeId × Value → H) :
    ReturnsInHanded {} Try.checked os 6 .any (Rows.fnExactLawSpec.pre6 enc Try.prog Try.f6 Rows.fnExactLawRow.domain false) (Rows.fnExactLawSpec.post enc Try.prog Try.f6 false true false false) := by
  refine returnsInHanded_of_change (C := Try.checked) own started (by kernel_rfl) Try.func6
    (ChangeSpec.witness6 (enc := enc) (C := Try.checked) false ⟨#[], #[.int .i64 0, .agg #[.slice none 0 0, .slice none 0 0], .agg #[.int .i64 0, .int .i64 0, .int .i64 0, .int .i64 0], .agg #[.int .i64 0, .int .i64 0, .int .i64 0], .int .i64 0], []⟩ 8 (by kernel_rfl) (by kernel_rfl) (by kernel_rfl) (by kernel_rfl)) ?_
  intro W base args ds gs before hval0 hW hcnd _
  have hval : ∀ (j : Nat) t v, Try.f6.params[j]? = some t → args[j]? = some v → Value.okWide Try.prog W .any base t v := hval0
  have hW' := hW
  obtain ⟨p, q, hA0, hV, rfl, hfz, hnd⟩ := hW
  have hA : DataW.TrodAll enc Try.prog W 0 (fun _ => true) true Try.f6.params.toList args.toList ds p := hA0
  rw [Try.params6] at hA hval
  obtain ⟨v0, vs0, d0, ds0, p0, q0, hargs, rfl, rfl, h0, r0⟩ := trodAll_cons hA
  obtain ⟨v1, vs1, d1, ds1, p1, q1, rfl, rfl, rfl, h1, r1⟩ := trodAll_cons r0
  obtain ⟨v2, vs2, d2, ds2, p2, q2, rfl, rfl, rfl, h2, r2⟩ := trodAll_cons r1
  obtain ⟨v3, vs3, d3, ds3, p3, q3, rfl, rfl, rfl, h3, r3⟩ := trodAll_cons r2
  obtain ⟨v4, vs4, d4, ds4, p4, q4, rfl, rfl, rfl, h4, r4⟩ := trodAll_cons r3
  obtain ⟨rfl, rfl, rfl⟩ := trodAll_nil r4
  obtain rfl : args = #[v0, v1, v2, v3, v4] := by cases args; simp_all
  obtain ⟨rfl, rfl⟩ := trodVars_none hV
  obtain ⟨x0, rfl, rfl, rfl, wi0⟩ := open_int Try.underlying3 (hval 0 3 v0 rfl rfl) h0
  have k1 := h1
  have lt1 : ∀ x ∈ p1, x.block < W.heap.size := by obtain ⟨m, hm⟩ := k1; exact DataW.trod_lt m _ _ _ hm
  obtain ⟨cs1, m1, rfl, sz1, hf1⟩ := agg_of1 Try.underlying29 (by kernel_rfl) (by kernel_rfl) (hval 1 29 v1 rfl rfl) h1
  obtain ⟨c10, y10, e10, hy10⟩ := hf1 0 _ rfl
  obtain ⟨c11, y11, e11, hy11⟩ := hf1 1 _ rfl
  obtain ⟨ad10, len10, cp10, ps10, rfl, hr10, _⟩ := row_of hy10
  obtain ⟨ad11, len11, cp11, ps11, rfl, hr11, _⟩ := row_of hy11
  obtain rfl := arr2 cs1 (by simpa using sz1) e10 e11
  have k2 := h2
  have lt2 : ∀ x ∈ p2, x.block < W.heap.size := by obtain ⟨m, hm⟩ := k2; exact DataW.trod_lt m _ _ _ hm
  obtain ⟨cs2, m2, rfl, sz2, hf2⟩ := agg_of1 Try.underlying39 (by kernel_rfl) (by kernel_rfl) (hval 2 39 v2 rfl rfl) h2
  obtain ⟨c20, y20, e20, hy20⟩ := hf2 0 _ rfl
  obtain ⟨b20, ei20, _, wi20⟩ := DataW.trod_int Try.underlying3 hy20
  simp only [List.cons.injEq, and_true] at ei20
  subst ei20
  obtain ⟨c21, y21, e21, hy21⟩ := hf2 1 _ rfl
  obtain ⟨b21, ei21, _, wi21⟩ := DataW.trod_int Try.underlying3 hy21
  simp only [List.cons.injEq, and_true] at ei21
  subst ei21
  obtain ⟨c22, y22, e22, hy22⟩ := hf2 2 _ rfl
  obtain ⟨b22, ei22, _, wi22⟩ := DataW.trod_int Try.underlying3 hy22
  simp only [List.cons.injEq, and_true] at ei22
  subst ei22
  obtain ⟨c23, y23, e23, hy23⟩ := hf2 3 _ rfl
  obtain ⟨b23, ei23, _, wi23⟩ := DataW.trod_int Try.underlying3 hy23
  simp only [List.cons.injEq, and_true] at ei23
  subst ei23
  obtain rfl := arr4 cs2 (by simpa using sz2) e20 e21 e22 e23
  have k3 := h3
  have lt3 : ∀ x ∈ p3, x.block < W.heap.size := by obtain ⟨m, hm⟩ := k3; exact DataW.trod_lt m _ _ _ hm
  obtain ⟨cs3, m3, rfl, sz3, hf3⟩ := agg_of1 Try.underlying41 (by kernel_rfl) (by kernel_rfl) (hval 3 41 v3 rfl rfl) h3
  obtain ⟨c30, y30, e30, hy30⟩ := hf3 0 _ rfl
  obtain ⟨b30, ei30, _, wi30⟩ := DataW.trod_int Try.underlying3 hy30
  simp only [List.cons.injEq, and_true] at ei30
  subst ei30
  obtain ⟨c31, y31, e31, hy31⟩ := hf3 1 _ rfl
  obtain ⟨b31, ei31, _, wi31⟩ := DataW.trod_int Try.underlying3 hy31
  simp only [List.cons.injEq, and_true] at ei31
  subst ei31
  obtain ⟨c32, y32, e32, hy32⟩ := hf3 2 _ rfl
  obtain ⟨b32, ei32, _, wi32⟩ := DataW.trod_int Try.underlying3 hy32
  simp only [List.cons.injEq, and_true] at ei32
  subst ei32
  obtain rfl := arr3 cs3 (by simpa using sz3) e30 e31 e32
  obtain ⟨x4, rfl, rfl, rfl, wi4⟩ := open_int Try.underlying3 (hval 4 3 v4 rfl rfl) h4
  clear hA0 hval0
  refine (lawLaw x0 ad10 ad11 len10 cp10 len11 cp11 ps10 ps11 b20 b21 b22 b23 b30 b31 b32 x4 W ⟨hr10, hr11⟩).mono fun e W' ⟨he, bel⟩ => ?_
  subst he
  exact ⟨_, rfl, _, _, _, [], _, [], hW', trodAll_mk1 (shut_bool Try.underlying4 _), (trodAll_cons_mk (shut_int Try.underlying3 wi0) (trodAll_cons_mk (Below.trod laidOut (by kernel_rfl) (of_decide_eq_true (by kernel_rfl)) k1 bel lt1) (trodAll_cons_mk (Below.trod laidOut (by kernel_rfl) (of_decide_eq_true (by kernel_rfl)) k2 bel lt2) (trodAll_cons_mk (Below.trod laidOut (by kernel_rfl) (of_decide_eq_true (by kernel_rfl)) k3 bel lt3) (trodAll_cons_mk (shut_int Try.underlying3 wi4) trodAll_mk0))))), rfl, bel.frame _, fun h => by cases h⟩

theorem law_holds : Rows.FnExactLawSaid :=
  OpenClaim.holds_of_wide 6 Try.f6 rfl rfl rfl rfl rfl rfl rfl ⟨rfl, rfl, rfl, rfl, rfl⟩ rfl rfl rfl rfl rfl (by kernel_rfl) Try.func6 (by kernel_rfl)
    (of_decide_eq_true (by kernel_rfl)) (by unfold Func.isWrapper; first | (rw [if_pos (by decide +kernel)]; kernel_rfl) | (rw [if_neg (by decide +kernel)]; exact ⟨rfl, rfl⟩))
    (fun os started H enc _ => law_lifted os started H enc)
#print axioms law_holds
end Go.Proofs.Ytbaocifpifbldar
