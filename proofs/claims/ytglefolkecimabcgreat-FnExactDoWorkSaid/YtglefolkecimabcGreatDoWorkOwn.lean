/-
  FnExactDoWorkSaid: at every fleet and deed DoWork answers as the specification, in memory of its own, and writes nothing of what it was given
-/
import Derived.Test.YtglefolkecimabcGreatOpen
import Derived.Test.YtglefolkecimabcGreatOpenE
import Derived.Test.YtglefolkecimabcGreatFl1
import Derived.Test.YtglefolkecimabcGreatArr
import Derived.Test.YtglefolkecimabcGreatLawDoWork
namespace Go.Proofs.YtglefolkecimabcGreat
open Go.ChangeShapes Go.WideShapes Go.ChangeAt Go.RowKit Go.Joins

set_option maxRecDepth 100000 in
theorem doWork_lifted (os : Os) (started : os.Started) (H : Type) (enc : TypeId × Value → H) :
    ReturnsInHanded {} Tryz.checked os 3 .any (Rows.fnExactDoWorkSpec.pre6 enc Tryz.prog Tryz.f3 Rows.fnExactDoWorkRow.domain false) (Rows.fnExactDoWorkSpec.post enc Tryz.prog Tryz.f3 false true false false) := by
  refine returnsInHanded_of_change (C := Tryz.checked) own started (by kernel_rfl) Tryz.func3
    (ChangeSpec.witness6 (enc := enc) (C := Tryz.checked) false ⟨#[], #[.agg #[.slice none 0 0, .slice none 0 0, .slice none 0 0, .int .i64 0, .int .i64 0, .int .i64 0], .agg #[.int .i64 0, .string ⟨#[]⟩, .int .i64 0, .int .i64 0]], []⟩ 8 (by kernel_rfl) (by kernel_rfl) (by kernel_rfl) (by kernel_rfl)) ?_
  intro W base args ds gs before hval0 hW hcnd _
  have hval : ∀ (j : Nat) t v, Tryz.f3.params[j]? = some t → args[j]? = some v → Value.okWide Tryz.prog W .any base t v := hval0
  have hW' := hW
  obtain ⟨p, q, hA0, hV, rfl, hfz, hnd⟩ := hW
  have hA : DataW.TrodAll enc Tryz.prog W 0 (fun _ => true) true Tryz.f3.params.toList args.toList ds p := hA0
  rw [Tryz.params3] at hA hval
  obtain ⟨v0, vs0, d0, ds0, p0, q0, hargs, rfl, rfl, h0, r0⟩ := trodAll_cons hA
  obtain ⟨v1, vs1, d1, ds1, p1, q1, rfl, rfl, rfl, h1, r1⟩ := trodAll_cons r0
  obtain ⟨rfl, rfl, rfl⟩ := trodAll_nil r1
  obtain rfl : args = #[v0, v1] := by cases args; simp_all
  obtain ⟨rfl, rfl⟩ := trodVars_none hV
  have k0 := h0
  have lt0 : ∀ x ∈ p0, x.block < W.heap.size := by obtain ⟨m, hm⟩ := k0; exact DataW.trod_lt m _ _ _ hm
  obtain ⟨nh0, nc0, nd0, aa0, ab0, ac0, la0, ca0, lb0, cb0, lc0, cc0, ts0, cs0, ds0, rfl, hr0, ft0, fc0, fd0⟩ := fleet_arg (hval 0 28 v0 rfl rfl) h0
  have k1 := h1
  have lt1 : ∀ x ∈ p1, x.block < W.heap.size := by obtain ⟨m, hm⟩ := k1; exact DataW.trod_lt m _ _ _ hm
  obtain ⟨cs1, m1, rfl, sz1, hf1⟩ := agg_of1 Tryz.underlying30 (by kernel_rfl) (by kernel_rfl) (hval 1 30 v1 rfl rfl) h1
  obtain ⟨c10, y10, e10, hy10⟩ := hf1 0 _ rfl
  obtain ⟨b10, ei10, _, wi10⟩ := DataW.trod_int Tryz.underlying3 hy10
  simp only [List.cons.injEq, and_true] at ei10
  subst ei10
  obtain ⟨c11, y11, e11, hy11⟩ := hf1 1 _ rfl
  obtain ⟨b11, ei11, _, wi11⟩ := DataW.trod_string Tryz.underlying9 hy11
  simp only [List.cons.injEq, and_true] at ei11
  subst ei11
  obtain ⟨c12, y12, e12, hy12⟩ := hf1 2 _ rfl
  obtain ⟨b12, ei12, _, wi12⟩ := DataW.trod_int Tryz.underlying3 hy12
  simp only [List.cons.injEq, and_true] at ei12
  subst ei12
  obtain ⟨c13, y13, e13, hy13⟩ := hf1 3 _ rfl
  obtain ⟨b13, ei13, _, wi13⟩ := DataW.trod_int Tryz.underlying3 hy13
  simp only [List.cons.injEq, and_true] at ei13
  subst ei13
  obtain rfl := arr4 cs1 (by simpa using sz1) e10 e11 e12 e13
  clear hA0 hval0
  refine (lawDoWork nh0 nc0 nd0 aa0 ab0 ac0 la0 ca0 lb0 cb0 lc0 cc0 ts0 cs0 ds0 b10 b11 b12 b13 W hr0 ft0 fc0 fd0 (by unfold maxLen at wi11; exact wi11)).mono fun e W' ⟨he, bel⟩ => ?_
  subst he
  exact ⟨_, rfl, _, _, _, [], _, [], hW', trodAll_mk1 (shut_bool Tryz.underlying4 _), (trodAll_cons_mk (Below.trod laidOut (by kernel_rfl) (of_decide_eq_true (by kernel_rfl)) k0 bel lt0) (trodAll_cons_mk (Below.trod laidOut (by kernel_rfl) (of_decide_eq_true (by kernel_rfl)) k1 bel lt1) trodAll_mk0)), rfl, bel.frame _, fun h => by cases h⟩

theorem doWork_holds : Rows.FnExactDoWorkSaid :=
  OpenClaim.holds_of_wide 3 Tryz.f3 rfl rfl rfl rfl rfl rfl rfl ⟨rfl, rfl, rfl, rfl, rfl⟩ rfl rfl rfl rfl rfl (by kernel_rfl) Tryz.func3 (by kernel_rfl)
    (of_decide_eq_true (by kernel_rfl)) (by unfold Func.isWrapper; first | (rw [if_pos (by decide +kernel)]; kernel_rfl) | (rw [if_neg (by decide +kernel)]; exact ⟨rfl, rfl⟩))
    (fun os started H enc _ => doWork_lifted os started H enc)
#print axioms doWork_holds
end Go.Proofs.YtglefolkecimabcGreat
