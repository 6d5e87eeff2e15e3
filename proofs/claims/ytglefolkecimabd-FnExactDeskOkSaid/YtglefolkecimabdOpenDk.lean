/-
  How a desk is opened: a craft, legs, a pilot and a fleet. No condition.
-/
import Derived.Test.YtglefolkecimabdOpenFl
import Derived.Test.YtglefolkecimabdLg1
import Derived.Test.YtglefolkecimabdDkIn
namespace Go.Proofs.Ytglefolkecimabd
open Go.ChangeShapes Go.WideShapes Go.ChangeAt Go.RowKit Go.Joins Go.Deep

set_option maxRecDepth 20000 in
/-- A fleet out of its cells. -/
theorem fleet_cells {H : Type} {enc : TypeId × Value → H} {W : World} {base fuel : Nat} {held : Bool} {cs' : List Value} {d : DataW H} {q : List MemPlace} (hl : cs'.length = 6)
    (h : DataW.trod enc Try.prog W base (fun _ => true) held fuel 54 cs' = some (d, q)) :
    ∃ nh nc nd a1 a2 a3 l1 c1 l2 c2 l3 c3 ts cs ds, cs' = [.slice a1 l1 c1, .slice a2 l2 c2, .slice a3 l3 c3, .int .i64 nh, .int .i64 nc, .int .i64 nd] ∧ FlIn W a1 a2 a3 l1 l2 l3 ts cs ds ∧ (∀ i, fitT (elAt ts i).nm) ∧ (∀ i, fitT (elAt cs i).n) ∧ (∀ i, fitT (elAt ds i).n) := by
  obtain ⟨xs, k, _, _, _, hlen, hf⟩ := DataW.trod_struct Try.underlying54 h
  obtain ⟨c0, c1, c2, c3, c4, c5, rfl⟩ : ∃ c0 c1 c2 c3 c4 c5, cs' = [c0, c1, c2, c3, c4, c5] := by
    match cs', hl with
    | [a, b, c, d, e, f], _ => exact ⟨_, _, _, _, _, _, rfl⟩
  have hlen : xs.length = 4 := hlen
  have g : ∀ i, i < 4 → ∃ x, xs[i]? = some x := fun i hi => ⟨_, List.getElem?_eq_getElem (by omega)⟩
  obtain ⟨x0, g0⟩ := g 0 (by omega)
  obtain ⟨x1, g1⟩ := g 1 (by omega)
  obtain ⟨x2, g2⟩ := g 2 (by omega)
  obtain ⟨x3, g3⟩ := g 3 (by omega)
  have h0 : DataW.trod enc Try.prog W base (fun _ => true) held k 48 (([c0, c1, c2, c3, c4, c5].drop 0).take (Try.prog.cellsOf 48)) = xs[0]? := hf 0 _ rfl
  have h1 : DataW.trod enc Try.prog W base (fun _ => true) held k 49 (([c0, c1, c2, c3, c4, c5].drop 1).take (Try.prog.cellsOf 49)) = xs[1]? := hf 1 _ rfl
  have h2 : DataW.trod enc Try.prog W base (fun _ => true) held k 50 (([c0, c1, c2, c3, c4, c5].drop 2).take (Try.prog.cellsOf 50)) = xs[2]? := hf 2 _ rfl
  have h3 : DataW.trod enc Try.prog W base (fun _ => true) held k 52 (([c0, c1, c2, c3, c4, c5].drop 3).take (Try.prog.cellsOf 52)) = xs[3]? := hf 3 _ rfl
  rw [cellsFlT, g0] at h0
  rw [cellsFlC, g1] at h1
  rw [cellsFlD, g2] at h2
  rw [cellsTsC, g3] at h3
  have h0 : DataW.trod enc Try.prog W base (fun _ => true) held k 48 [c0] = some x0 := h0
  have h1 : DataW.trod enc Try.prog W base (fun _ => true) held k 49 [c1] = some x1 := h1
  have h2 : DataW.trod enc Try.prog W base (fun _ => true) held k 50 [c2] = some x2 := h2
  have h3 : DataW.trod enc Try.prog W base (fun _ => true) held k 52 [c3, c4, c5] = some x3 := h3
  obtain ⟨a1, l1, p1, ts, e0, ⟨r0, f0⟩, _, _⟩ := rowTk_of h0
  obtain ⟨a2, l2, p2, cr, e1, ⟨r1, f1⟩, _, _⟩ := rowCr_of h1
  obtain ⟨a3, l3, p3, df, e2, ⟨r2, f2⟩, _, _⟩ := rowDf_of h2
  obtain ⟨k2, hk2⟩ := fields_of1 Try.underlying52 (by kernel_rfl) rfl h3
  obtain ⟨d0, y0, z0, t0⟩ := hk2 0 _ rfl
  obtain ⟨d1, y1, z1, t1⟩ := hk2 1 _ rfl
  obtain ⟨d2, y2, z2, t2⟩ := hk2 2 _ rfl
  obtain ⟨b0, u0, _, _⟩ := DataW.trod_int Try.underlying3 t0
  obtain ⟨b1, u1, _, _⟩ := DataW.trod_int Try.underlying3 t1
  obtain ⟨b2, u2, _, _⟩ := DataW.trod_int Try.underlying3 t2
  simp only [List.getElem?_cons_zero, List.getElem?_cons_succ, Option.some.injEq] at z0 z1 z2
  simp only [List.cons.injEq, and_true] at u0 u1 u2
  subst z0 z1 z2 u0 u1 u2 e0 e1 e2
  exact ⟨b0, b1, b2, a1, a2, a3, l1, p1, l2, p2, l3, p3, ts, cr, df, rfl, ⟨r0, r1, r2⟩, f0, f1, f2⟩
theorem cellsDkC : Try.prog.cellsOf 44 = 5 := by kernel_rfl
theorem cellsDkL : Try.prog.cellsOf 45 = 1 := by kernel_rfl
theorem cellsDkP : Try.prog.cellsOf 47 = 9 := by kernel_rfl
theorem cellsDk : Try.prog.cellsOf 56 = 21 := by kernel_rfl
set_option maxRecDepth 20000 in
/-- A desk that is an argument. -/
theorem desk_arg {H : Type} {enc : TypeId × Value → H} {W : World} {base b0 : Nat} {held : Bool} {r : Reach} {v : Value} {d : DataW H} {q : List MemPlace}
    (hv : Value.okWide Try.prog W r b0 56 v) (h : DataW.Trod enc Try.prog W base (fun _ => true) held 56 v d q) :
    ∃ (C : Cf) (P : Pl) (g : Option Addr) (n c0 : Nat) (nh nc nd : Int) (a1 a2 a3 : Option Addr) (l1 c1 l2 c2 l3 c3 : Nat) (ls : List Lg) (z1 : List Ts) (z2 : List Cr) (z3 : List Df), v = .agg #[.int .i64 C.a0, .int .i64 C.a1, .int .i64 C.a2, .int .i64 C.a3, .int .i64 C.a4, .slice g n c0, .int .i64 P.a0, .int .i64 P.a1, .int .i64 P.a2, .int .i64 P.a3, .int .i64 P.a4, .int .i64 P.a5, .int .i64 P.a6, .int .i64 P.a7, .bool P.a8, .slice a1 l1 c1, .slice a2 l2 c2, .slice a3 l3 c3, .int .i64 nh, .int .i64 nc, .int .i64 nd] ∧ DkIn W g a1 a2 a3 n l1 l2 l3 ls z1 z2 z3 ∧ (∀ i, fitT (elAt z1 i).nm) ∧ (∀ i, fitT (elAt z2 i).n) ∧ (∀ i, fitT (elAt z3 i).n) := by
  obtain ⟨cs, rfl, hsz⟩ := okWide_struct Try.underlying56 hv
  obtain ⟨fuel, hf0⟩ := h
  have hl : cs.toList.length = 21 := by rw [Array.length_toList, hsz, cellsDk]
  have h : DataW.trod enc Try.prog W base (fun _ => true) held fuel 56 cs.toList = some (d, q) := by simpa [Value.cells] using hf0
  rw [← Array.toArray_toList (xs := cs)]
  generalize cs.toList = cs' at hl h
  clear hf0 hv hsz
  obtain ⟨xs, k, _, _, _, hlen, hf⟩ := DataW.trod_struct Try.underlying56 h
  obtain ⟨c0, c1, c2, c3, c4, c5, c6, c7, c8, c9, c10, c11, c12, c13, c14, c15, c16, c17, c18, c19, c20, rfl⟩ : ∃ c0 c1 c2 c3 c4 c5 c6 c7 c8 c9 c10 c11 c12 c13 c14 c15 c16 c17 c18 c19 c20, cs' = [c0, c1, c2, c3, c4, c5, c6, c7, c8, c9, c10, c11, c12, c13, c14, c15, c16, c17, c18, c19, c20] := by
    match cs', hl with
    | [a0, a1, a2, a3, a4, a5, a6, a7, a8, a9, a10, a11, a12, a13, a14, a15, a16, a17, a18, a19, a20], _ => exact ⟨_, _, _, _, _, _, _, _, _, _, _, _, _, _, _, _, _, _, _, _, _, rfl⟩
  have hlen : xs.length = 4 := hlen
  have g : ∀ i, i < 4 → ∃ x, xs[i]? = some x := fun i hi => ⟨_, List.getElem?_eq_getElem (by omega)⟩
  obtain ⟨x0, g0⟩ := g 0 (by omega)
  obtain ⟨x1, g1⟩ := g 1 (by omega)
  obtain ⟨x2, g2⟩ := g 2 (by omega)
  obtain ⟨x3, g3⟩ := g 3 (by omega)
  have hC : DataW.trod enc Try.prog W base (fun _ => true) held k 44 (([c0, c1, c2, c3, c4, c5, c6, c7, c8, c9, c10, c11, c12, c13, c14, c15, c16, c17, c18, c19, c20].drop 0).take (Try.prog.cellsOf 44)) = xs[0]? := hf 0 _ rfl
  rw [cellsDkC, g0] at hC
  have hC : DataW.trod enc Try.prog W base (fun _ => true) held k 44 [c0, c1, c2, c3, c4] = some x0 := hC
  have hL : DataW.trod enc Try.prog W base (fun _ => true) held k 45 (([c0, c1, c2, c3, c4, c5, c6, c7, c8, c9, c10, c11, c12, c13, c14, c15, c16, c17, c18, c19, c20].drop 5).take (Try.prog.cellsOf 45)) = xs[1]? := hf 1 _ rfl
  rw [cellsDkL, g1] at hL
  have hL : DataW.trod enc Try.prog W base (fun _ => true) held k 45 [c5] = some x1 := hL
  have hP : DataW.trod enc Try.prog W base (fun _ => true) held k 47 (([c0, c1, c2, c3, c4, c5, c6, c7, c8, c9, c10, c11, c12, c13, c14, c15, c16, c17, c18, c19, c20].drop 6).take (Try.prog.cellsOf 47)) = xs[2]? := hf 2 _ rfl
  rw [cellsDkP, g2] at hP
  have hP : DataW.trod enc Try.prog W base (fun _ => true) held k 47 [c6, c7, c8, c9, c10, c11, c12, c13, c14] = some x2 := hP
  have hF : DataW.trod enc Try.prog W base (fun _ => true) held k 54 (([c0, c1, c2, c3, c4, c5, c6, c7, c8, c9, c10, c11, c12, c13, c14, c15, c16, c17, c18, c19, c20].drop 15).take (Try.prog.cellsOf 54)) = xs[3]? := hf 3 _ rfl
  rw [cellsFl, g3] at hF
  have hF : DataW.trod enc Try.prog W base (fun _ => true) held k 54 [c15, c16, c17, c18, c19, c20] = some x3 := hF
  obtain ⟨gg, nn, cc, ls, eL, rL, _, _⟩ := rowLg_of hL
  obtain ⟨nh, nc, nd, a1, a2, a3, l1, p1, l2, p2, l3, p3, ts, cr, df, eF, rF, f1, f2, f3⟩ := fleet_cells rfl hF
  obtain ⟨kC, hkC⟩ := fields_of1 Try.underlying44 (by kernel_rfl) rfl hC
  obtain ⟨dC0, yC0, zC0, tC0⟩ := hkC 0 _ rfl
  obtain ⟨bC0, uC0, _, _⟩ := DataW.trod_int Try.underlying3 tC0
  obtain ⟨dC1, yC1, zC1, tC1⟩ := hkC 1 _ rfl
  obtain ⟨bC1, uC1, _, _⟩ := DataW.trod_int Try.underlying3 tC1
  obtain ⟨dC2, yC2, zC2, tC2⟩ := hkC 2 _ rfl
  obtain ⟨bC2, uC2, _, _⟩ := DataW.trod_int Try.underlying3 tC2
  obtain ⟨dC3, yC3, zC3, tC3⟩ := hkC 3 _ rfl
  obtain ⟨bC3, uC3, _, _⟩ := DataW.trod_int Try.underlying3 tC3
  obtain ⟨dC4, yC4, zC4, tC4⟩ := hkC 4 _ rfl
  obtain ⟨bC4, uC4, _, _⟩ := DataW.trod_int Try.underlying3 tC4
  have zC0 : c0 = dC0 := Option.some.inj zC0
  have zC1 : c1 = dC1 := Option.some.inj zC1
  have zC2 : c2 = dC2 := Option.some.inj zC2
  have zC3 : c3 = dC3 := Option.some.inj zC3
  have zC4 : c4 = dC4 := Option.some.inj zC4
  simp only [List.cons.injEq, and_true] at uC0 uC1 uC2 uC3 uC4
  subst zC0 zC1 zC2 zC3 zC4 uC0 uC1 uC2 uC3 uC4
  obtain ⟨kP, hkP⟩ := fields_of1 Try.underlying47 (by kernel_rfl) rfl hP
  obtain ⟨dP0, yP0, zP0, tP0⟩ := hkP 0 _ rfl
  obtain ⟨bP0, uP0, _, _⟩ := DataW.trod_int Try.underlying3 tP0
  obtain ⟨dP1, yP1, zP1, tP1⟩ := hkP 1 _ rfl
  obtain ⟨bP1, uP1, _, _⟩ := DataW.trod_int Try.underlying3 tP1
  obtain ⟨dP2, yP2, zP2, tP2⟩ := hkP 2 _ rfl
  obtain ⟨bP2, uP2, _, _⟩ := DataW.trod_int Try.underlying3 tP2
  obtain ⟨dP3, yP3, zP3, tP3⟩ := hkP 3 _ rfl
  obtain ⟨bP3, uP3, _, _⟩ := DataW.trod_int Try.underlying3 tP3
  obtain ⟨dP4, yP4, zP4, tP4⟩ := hkP 4 _ rfl
  obtain ⟨bP4, uP4, _, _⟩ := DataW.trod_int Try.underlying3 tP4
  obtain ⟨dP5, yP5, zP5, tP5⟩ := hkP 5 _ rfl
  obtain ⟨bP5, uP5, _, _⟩ := DataW.trod_int Try.underlying3 tP5
  obtain ⟨dP6, yP6, zP6, tP6⟩ := hkP 6 _ rfl
  obtain ⟨bP6, uP6, _, _⟩ := DataW.trod_int Try.underlying3 tP6
  obtain ⟨dP7, yP7, zP7, tP7⟩ := hkP 7 _ rfl
  obtain ⟨bP7, uP7, _, _⟩ := DataW.trod_int Try.underlying3 tP7
  obtain ⟨dP8, yP8, zP8, tP8⟩ := hkP 8 _ rfl
  obtain ⟨bP8, uP8, _⟩ := DataW.trod_bool Try.underlying4 tP8
  have zP0 : c6 = dP0 := Option.some.inj zP0
  have zP1 : c7 = dP1 := Option.some.inj zP1
  have zP2 : c8 = dP2 := Option.some.inj zP2
  have zP3 : c9 = dP3 := Option.some.inj zP3
  have zP4 : c10 = dP4 := Option.some.inj zP4
  have zP5 : c11 = dP5 := Option.some.inj zP5
  have zP6 : c12 = dP6 := Option.some.inj zP6
  have zP7 : c13 = dP7 := Option.some.inj zP7
  have zP8 : c14 = dP8 := Option.some.inj zP8
  simp only [List.cons.injEq, and_true] at uP0 uP1 uP2 uP3 uP4 uP5 uP6 uP7 uP8
  subst zP0 zP1 zP2 zP3 zP4 zP5 zP6 zP7 zP8 uP0 uP1 uP2 uP3 uP4 uP5 uP6 uP7 uP8
  simp only [List.cons.injEq, and_true] at eF
  obtain ⟨q1, q2, q3, q4, q5, q6⟩ := eF
  subst eL q1 q2 q3 q4 q5 q6
  exact ⟨⟨bC0, bC1, bC2, bC3, bC4⟩, ⟨bP0, bP1, bP2, bP3, bP4, bP5, bP6, bP7, bP8⟩, gg, nn, cc, nh, nc, nd, a1, a2, a3, l1, p1, l2, p2, l3, p3, ls, ts, cr, df, rfl, ⟨rL, rF⟩, f1, f2, f3⟩

end Go.Proofs.Ytglefolkecimabd
