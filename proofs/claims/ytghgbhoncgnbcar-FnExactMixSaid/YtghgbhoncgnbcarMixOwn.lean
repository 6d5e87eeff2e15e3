/-
  FnExactMixSaid: at every mixer, pitch, roll and limits Mix answers as the specification, writes nothing of what it was given, and its answer owns its memory
-/
import Derived.Test.YtghgbhoncgnbcarOpen
import Derived.Test.YtghgbhoncgnbcarOpenE
import Derived.Test.YtghgbhoncgnbcarArr
import Derived.Test.YtghgbhoncgnbcarLawMix
namespace Go.Proofs.Ytghgbhoncgnbcar
open Go.ChangeShapes Go.WideShapes Go.ChangeAt Go.RowKit Go.Joins

set_option maxRecDepth 100000 in
theorem mix_lifted (os : Os) (started : os.Started) (H : Type) (enc : TypeId × Value → H) :
    ReturnsInHanded {} Try.checked os 8 .any (Rows.fnExactMixSpec.pre6 enc Try.prog Try.f8 Rows.fnExactMixRow.domain false) (Rows.fnExactMixSpec.post enc Try.prog Try.f8 false true false false) := by
  refine returnsInHanded_of_change (C := Try.checked) own started (by kernel_rfl) Try.func8
    (ChangeSpec.witness6 (enc := enc) (C := Try.checked) false ⟨#[], #[.agg #[.slice none 0 0, .slice none 0 0], .int .i64 0, .int .i64 0, .agg #[.int .i64 0, .int .i64 0, .int .i64 0]], []⟩ 8 (by kernel_rfl) (by kernel_rfl) (by kernel_rfl) (by kernel_rfl)) ?_
  intro W base args ds gs before hval0 hW hcnd _
  have hval : ∀ (j : Nat) t v, Try.f8.params[j]? = some t → args[j]? = some v → Value.okWide Try.prog W .any base t v := hval0
  have hW' := hW
  obtain ⟨p, q, hA0, hV, rfl, hfz, hnd⟩ := hW
  have hA : DataW.TrodAll enc Try.prog W 0 (fun _ => true) true Try.f8.params.toList args.toList ds p := hA0
  rw [Try.params8] at hA hval
  obtain ⟨v0, vs0, d0, ds0, p0, q0, hargs, rfl, rfl, h0, r0⟩ := trodAll_cons hA
  obtain ⟨v1, vs1, d1, ds1, p1, q1, rfl, rfl, rfl, h1, r1⟩ := trodAll_cons r0
  obtain ⟨v2, vs2, d2, ds2, p2, q2, rfl, rfl, rfl, h2, r2⟩ := trodAll_cons r1
  obtain ⟨v3, vs3, d3, ds3, p3, q3, rfl, rfl, rfl, h3, r3⟩ := trodAll_cons r2
  obtain ⟨rfl, rfl, rfl⟩ := trodAll_nil r3
  obtain rfl : args = #[v0, v1, v2, v3] := by cases args; simp_all
  obtain ⟨rfl, rfl⟩ := trodVars_none hV
  have k0 := h0
  have lt0 : ∀ x ∈ p0, x.block < W.heap.size := by obtain ⟨m, hm⟩ := k0; exact DataW.trod_lt m _ _ _ hm
  obtain ⟨cs0, m0, rfl, sz0, hf0⟩ := agg_of1 Try.underlying52 (by kernel_rfl) (by kernel_rfl) (hval 0 52 v0 rfl rfl) h0
  obtain ⟨c00, y00, e00, hy00⟩ := hf0 0 _ rfl
  obtain ⟨c01, y01, e01, hy01⟩ := hf0 1 _ rfl
  obtain ⟨ad00, len00, cp00, ps00, rfl, hr00, _⟩ := row_of hy00
  obtain ⟨ad01, len01, cp01, ps01, rfl, hr01, _⟩ := row_of hy01
  obtain rfl := arr2 cs0 (by simpa using sz0) e00 e01
  obtain ⟨x1, rfl, rfl, rfl, wi1⟩ := open_int Try.underlying3 (hval 1 3 v1 rfl rfl) h1
  obtain ⟨x2, rfl, rfl, rfl, wi2⟩ := open_int Try.underlying3 (hval 2 3 v2 rfl rfl) h2
  have k3 := h3
  have lt3 : ∀ x ∈ p3, x.block < W.heap.size := by obtain ⟨m, hm⟩ := k3; exact DataW.trod_lt m _ _ _ hm
  obtain ⟨cs3, m3, rfl, sz3, hf3⟩ := agg_of1 Try.underlying41 (by kernel_rfl) (by kernel_rfl) (hval 3 41 v3 rfl rfl) h3
  obtain ⟨c30, y30, e30, hy30⟩ := hf3 0 _ rfl
  obtain ⟨b30, ei30, _, wi30⟩ := DataW.trod_int Try.underlying3 hy30
  simp only [List.cons.injEq, and_true] at ei30
  subst ei30
  obtain ⟨c31, y31, e31, hy31⟩ := hf3 1 _ rfl
  obtain ⟨b31, ei31, _, wi31⟩ := DataW.trod_int Try.underlying3 hy31
  simp only [List.cons.injEq, and_true] at ei31
  subst ei31
  obtain ⟨c32, y32, e32, hy32⟩ := hf3 2 _ rfl
  obtain ⟨b32, ei32, _, wi32⟩ := DataW.trod_int Try.underlying3 hy32
  simp only [List.cons.injEq, and_true] at ei32
  subst ei32
  obtain rfl := arr3 cs3 (by simpa using sz3) e30 e31 e32
  clear hA0 hval0
  refine (lawMix ad00 ad01 len00 cp00 len01 cp01 ps00 ps01 x1 x2 b30 b31 b32 W ⟨hr00, hr01⟩).mono fun e W' ⟨he, bel⟩ => ?_
  subst he
  exact ⟨_, rfl, _, _, _, [], _, [], hW', trodAll_mk1 (shut_bool Try.underlying4 _), (trodAll_cons_mk (Below.trod laidOut (by kernel_rfl) (of_decide_eq_true (by kernel_rfl)) k0 bel lt0) (trodAll_cons_mk (shut_int Try.underlying3 wi1) (trodAll_cons_mk (shut_int Try.underlying3 wi2) (trodAll_cons_mk (Below.trod laidOut (by kernel_rfl) (of_decide_eq_true (by kernel_rfl)) k3 bel lt3) trodAll_mk0)))), rfl, bel.frame _, fun h => by cases h⟩

theorem mix_holds : Rows.FnExactMixSaid :=
  OpenClaim.holds_of_wide 8 Try.f8 rfl rfl rfl rfl rfl rfl rfl ⟨rfl, rfl, rfl, rfl, rfl⟩ rfl rfl rfl rfl rfl (by kernel_rfl) Try.func8 (by kernel_rfl)
    (of_decide_eq_true (by kernel_rfl)) (by unfold Func.isWrapper; first | (rw [if_pos (by decide +kernel)]; kernel_rfl) | (rw [if_neg (by decide +kernel)]; exact ⟨rfl, rfl⟩))
    (fun os started H enc _ => mix_lifted os started H enc)
#print axioms mix_holds
end Go.Proofs.Ytghgbhoncgnbcar
