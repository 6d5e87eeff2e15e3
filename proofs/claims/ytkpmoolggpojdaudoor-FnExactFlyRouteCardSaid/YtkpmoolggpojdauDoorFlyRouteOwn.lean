/-
  FnExactFlyRouteCardSaid: at every craft and list of legs FlyRoute answers as the specification. The table of steps as the program's text lays it (the card ties it).
-/
import Derived.Test.YtkpmoolggpojdauDoorOpen
import Derived.Test.YtkpmoolggpojdauDoorOpenE
import Derived.Test.YtkpmoolggpojdauDoorArr
import Derived.Test.YtkpmoolggpojdauDoorOpenLg
import Derived.Test.YtkpmoolggpojdauDoorLawFlyRoute
import Derived.Test.YtkpmoolggpojdauDoorGvSteps
import Derived.Test.YtkpmoolggpojdauDoorCards
import Derived.Test.YtkpmoolggpojdauDoorTie
import Derived.OpenVars
import Derived.Deep.DeepHandedRow
import Derived.SevenTiedAt
namespace Go.Proofs.YtkpmoolggpojdauDoor
open Go.ChangeShapes Go.WideShapes Go.ChangeAt Go.RowKit Go.Joins

set_option maxRecDepth 100000 in
theorem flyRoute_contract (H : Type) (enc : TypeId × Value → H) (W : World) (base : Nat) (args : Array Value) (ds gs : List (DataW H)) (before : List MemPlace)
    (hval : ∀ (j : Nat) t v, Tryd.f4.params[j]? = some t → args[j]? = some v → Value.okWide Tryd.prog W .any base t v)
    (hW : DataW.Whole enc Tryd.prog Tryd.f4.params.toList Rows.fnExactFlyRouteSpec.vars false W args.toList ds gs before) (hL : laidMet Tryd.prog Rows.fnExactFlyRouteRow.laid W) :
    Calls Tryd.prog 4 args W fun e W' => ∃ v, e = .returned v ∧ Rows.fnExactFlyRouteSpec.post enc Tryd.prog Tryd.f4 false true false false W args v W' := by
  have hW' := hW
  obtain ⟨p, q, hA0, hV, rfl, hfz, hnd⟩ := hW
  obtain ⟨g1, rfl⟩ := one_var hV
  have hA : DataW.TrodAll enc Tryd.prog W 0 (fun _ => true) true Tryd.f4.params.toList args.toList ds p := hA0
  rw [Tryd.params4] at hA hval
  obtain ⟨v0, vs0, d0, ds0, p0, q0, hargs, rfl, rfl, h0, r0⟩ := trodAll_cons hA
  obtain ⟨v1, vs1, d1, ds1, p1, q1, rfl, rfl, rfl, h1, r1⟩ := trodAll_cons r0
  obtain ⟨rfl, rfl, rfl⟩ := trodAll_nil r1
  obtain rfl : args = #[v0, v1] := by cases args; simp_all
  have k0 := h0
  have lt0 : ∀ x ∈ p0, x.block < W.heap.size := by obtain ⟨m, hm⟩ := k0; exact DataW.trod_lt m _ _ _ hm
  obtain ⟨cs0, m0, rfl, sz0, hf0⟩ := agg_of1 Tryd.underlying23 (by kernel_rfl) (by kernel_rfl) (hval 0 23 v0 rfl rfl) h0
  obtain ⟨c00, y00, e00, hy00⟩ := hf0 0 _ rfl
  obtain ⟨b00, ei00, _, wi00⟩ := DataW.trod_int Tryd.underlying3 hy00
  simp only [List.cons.injEq, and_true] at ei00
  subst ei00
  obtain ⟨c01, y01, e01, hy01⟩ := hf0 1 _ rfl
  obtain ⟨b01, ei01, _, wi01⟩ := DataW.trod_int Tryd.underlying3 hy01
  simp only [List.cons.injEq, and_true] at ei01
  subst ei01
  obtain ⟨c02, y02, e02, hy02⟩ := hf0 2 _ rfl
  obtain ⟨b02, ei02, _, wi02⟩ := DataW.trod_int Tryd.underlying3 hy02
  simp only [List.cons.injEq, and_true] at ei02
  subst ei02
  obtain ⟨c03, y03, e03, hy03⟩ := hf0 3 _ rfl
  obtain ⟨b03, ei03, _, wi03⟩ := DataW.trod_int Tryd.underlying3 hy03
  simp only [List.cons.injEq, and_true] at ei03
  subst ei03
  obtain ⟨c04, y04, e04, hy04⟩ := hf0 4 _ rfl
  obtain ⟨b04, ei04, _, wi04⟩ := DataW.trod_int Tryd.underlying3 hy04
  simp only [List.cons.injEq, and_true] at ei04
  subst ei04
  obtain rfl := arr5 cs0 (by simpa using sz0) e00 e01 e02 e03 e04
  have k1 := h1
  have lt1 : ∀ x ∈ p1, x.block < W.heap.size := by obtain ⟨m, hm⟩ := k1; exact DataW.trod_lt m _ _ _ hm
  obtain ⟨ad1, len1, cp1, rfl⟩ := okWide_slice Tryd.underlying34 (hval 1 34 v1 rfl rfl)
  obtain ⟨fuel1, hf1⟩ := h1
  obtain ⟨ad1', len1', cp1', ps1, ev1, hr1, _, _⟩ := rowLg_of (by simpa [Value.cells] using hf1)
  simp only [Value.slice.injEq] at ev1
  obtain ⟨rfl, rfl, rfl⟩ := ev1
  clear hA0
  have hg : StG W := stg_of_laid hL
  refine (lawFlyRoute b00 b01 b02 b03 b04 ad1 len1 cp1 ps1 W hr1 hg).mono fun e W' ⟨he, bel⟩ => ?_
  subst he
  exact ⟨_, rfl, _, _, _, [], _, q, hW', trodAll_mk1 (shut_bool Tryd.underlying4 _), (trodAll_cons_mk (Below.trod laidOut (by kernel_rfl) (of_decide_eq_true (by kernel_rfl)) k0 bel lt0) (trodAll_cons_mk (Below.trod laidOut (by kernel_rfl) (of_decide_eq_true (by kernel_rfl)) k1 bel lt1) trodAll_mk0)), bel.trodVars laidOut (by kernel_rfl) hV, bel.frame _, fun h => by cases h⟩

/-- A world for the witness: the settled one, the table of steps holding what its initialiser lays. -/
noncomputable def flyRouteWorld (os : Os) : World :=
  { World.holding Tryd.prog os ⟨#[], #[], []⟩ with heap := (World.holding Tryd.prog os ⟨#[], #[], []⟩).heap.modify 0 fun
      | .cells _ t frozen => .cells #[.int .i64 0, .int .i64 1, .int .i64 1, .int .i64 1, .int .i64 1, .int .i64 0, .int .i64 1, .int .i64 (-1), .int .i64 0, .int .i64 (-1), .int .i64 (-1), .int .i64 (-1), .int .i64 (-1), .int .i64 0, .int .i64 (-1), .int .i64 1] t frozen
      | o => o }
theorem flyRoute_met (os : Os) : laidMet Tryd.prog Rows.fnExactFlyRouteRow.laid ((flyRouteWorld os).forCall (fun _ _ => 0) ⟨#[], #[.agg #[.int .i64 0, .int .i64 0, .int .i64 0, .int .i64 0, .int .i64 0], .slice none 0 0], []⟩).memory :=
  laidMet_of_run' 8 (by kernel_rfl) (by kernel_rfl)
theorem flyRoute_reads (os : Os) {H : Type} (enc : TypeId × Value → H) : DataW.whole enc Tryd.prog ((flyRouteWorld os).forCall (fun _ _ => 0) ⟨#[], #[.agg #[.int .i64 0, .int .i64 0, .int .i64 0, .int .i64 0, .int .i64 0], .slice none 0 0], []⟩).memory Tryd.f4.params.toList Rows.fnExactFlyRouteSpec.vars false (#[.agg #[.int .i64 0, .int .i64 0, .int .i64 0, .int .i64 0, .int .i64 0], .slice none 0 0] : Array Value).toList 8 = some ([.agg [.lit (.int .i64 0), .lit (.int .i64 0), .lit (.int .i64 0), .lit (.int .i64 0), .lit (.int .i64 0)], .nil], [Rows.laid_loop_example_g00063_impl_directionSteps], MemPlace.row ⟨0, 0, none⟩ 16) := by kernel_rfl

set_option maxRecDepth 100000 in
theorem flyRoute_lifted (os : Os) (started : os.Started) (H : Type) (enc : TypeId × Value → H) (F : Stop.Interp) :
    ReturnsInHanded {} Tryd.checked os 4 .any ((OpenSpec.ofChange Rows.fnExactFlyRouteSpec).preRow enc Tryd.prog Tryd.f4 Rows.fnExactFlyRouteRow.domain false Rows.fnExactFlyRouteRow.laid) (((OpenSpec.ofChange Rows.fnExactFlyRouteSpec).at F).post enc Tryd.prog Tryd.f4 false true false false) := by
  have hx := flyRoute_reads os enc
  refine returnsInHanded_of_row (C := Tryd.checked) (s := OpenSpec.ofChange Rows.fnExactFlyRouteSpec) own started (by kernel_rfl) Tryd.func4
    (witness_row_at (enc := enc) (C := Tryd.checked) false (flyRouteWorld os) #[.agg #[.int .i64 0, .int .i64 0, .int .i64 0, .int .i64 0, .int .i64 0], .slice none 0 0] rfl (by kernel_rfl) (by kernel_rfl) (by kernel_rfl)
      (OpenSpec.preRow_of_cond 8 hx (by kernel_rfl) (fun k hk => by cases hk) (by kernel_rfl) (flyRoute_met os))) ?_
  intro W base args ds gs before hval hW _ _ _ hL _ _
  exact flyRoute_contract H enc W base args ds gs before hval hW hL

theorem flyRoute_row : Rows.FnExactFlyRouteSaid :=
  OpenClaim.holds_of_cond 4 Tryd.f4 rfl rfl rfl rfl rfl rfl rfl ⟨rfl, rfl, rfl, rfl, rfl⟩ rfl rfl rfl rfl rfl (by kernel_rfl) Tryd.func4 (by kernel_rfl)
    (of_decide_eq_true (by kernel_rfl)) (by unfold Func.isWrapper; first | (rw [if_pos (by decide +kernel)]; kernel_rfl) | (rw [if_neg (by decide +kernel)]; exact ⟨rfl, rfl⟩))
    (fun os started H enc _ F => by rw [OpenClaim.pre_eq_preRow]; exact flyRoute_lifted os started H enc F)

theorem flyRoute_plain (f : FuncId) (fn : Func) (hf : Tryd.pinned.checked.prog.funcNamed "loop.example/g00063/laws.FnExactFlyRoute" = some f) (hfn : Tryd.pinned.checked.prog.funcs[f]? = some fn) :
    true = Tryd.pinned.checked.prog.looks [] ∧ ∀ (j : Nat) t, fn.params[j]? = some t → Tryd.pinned.checked.prog.wantsStandIn t = false := by
  obtain rfl : f = 4 := Option.some.inj ((show Tryd.prog.funcNamed "loop.example/g00063/laws.FnExactFlyRoute" = some 4 by kernel_rfl).symm.trans hf) |>.symm
  obtain rfl : fn = Tryd.f4 := (Option.some.inj (Tryd.func4.symm.trans hfn)).symm
  refine ⟨by kernel_rfl, fun j t ht => ?_⟩
  have hall : Tryd.f4.params.toList.all (fun t => !Tryd.prog.wantsStandIn t) = true := by kernel_rfl
  have hm : t ∈ Tryd.f4.params.toList := Array.mem_toList_iff.2 (Array.mem_of_getElem? ht)
  have := List.all_eq_true.1 hall t hm
  have h2 : Tryd.prog.wantsStandIn t = false := by simpa using this
  exact h2

theorem flyRoute_card : Rows.FnExactFlyRouteCardSaid :=
  Claim7.holds_tied_plain_at .later [] _ _ _ _ flyRoute_row (fun _ h => by cases h) (by kernel_rfl) (fun _ h => by cases h) fnExactFlyRoute_row_tie rfl ⟨rfl, rfl⟩ (by kernel_rfl) rfl flyRoute_plain (by kernel_rfl)
#print axioms flyRoute_card
end Go.Proofs.YtkpmoolggpojdauDoor
