/-
  How a fleet is opened: its three lists and three numbers. No condition.
-/
import Derived.Test.YtglefolkecimabdOp1
import Derived.Test.YtglefolkecimabdFlIn
namespace Go.Proofs.Ytglefolkecimabd
open Go.ChangeShapes Go.WideShapes Go.ChangeAt Go.RowKit Go.Joins Go.Deep

theorem cellsFlT : Try.prog.cellsOf 48 = 1 := by kernel_rfl
theorem cellsFlC : Try.prog.cellsOf 49 = 1 := by kernel_rfl
theorem cellsFlD : Try.prog.cellsOf 50 = 1 := by kernel_rfl
theorem cellsFl : Try.prog.cellsOf 54 = 6 := by kernel_rfl
set_option maxRecDepth 20000 in
/-- A fleet that is an argument. -/
theorem fleet_arg {H : Type} {enc : TypeId × Value → H} {W : World} {base b0 : Nat} {held : Bool} {r : Reach} {v : Value} {d : DataW H} {q : List MemPlace}
    (hv : Value.okWide Try.prog W r b0 54 v) (h : DataW.Trod enc Try.prog W base (fun _ => true) held 54 v d q) :
    ∃ nh nc nd a1 a2 a3 l1 c1 l2 c2 l3 c3 ts cs ds, v = .agg #[.slice a1 l1 c1, .slice a2 l2 c2, .slice a3 l3 c3, .int .i64 nh, .int .i64 nc, .int .i64 nd] ∧ FlIn W a1 a2 a3 l1 l2 l3 ts cs ds ∧ (∀ i, fitT (elAt ts i).nm) ∧ (∀ i, fitT (elAt cs i).n) ∧ (∀ i, fitT (elAt ds i).n) := by
  obtain ⟨cs, rfl, hsz⟩ := okWide_struct Try.underlying54 hv
  obtain ⟨fuel, hf0⟩ := h
  have hl : cs.toList.length = 6 := by rw [Array.length_toList, hsz, cellsFl]
  have h : DataW.trod enc Try.prog W base (fun _ => true) held fuel 54 cs.toList = some (d, q) := by simpa [Value.cells] using hf0
  rw [← Array.toArray_toList (xs := cs)]
  generalize cs.toList = cs' at hl h
  clear hf0 hv hsz
  obtain ⟨xs, k, _, _, _, hlen, hf⟩ := DataW.trod_struct Try.underlying54 h
  obtain ⟨c0, c1, c2, c3, c4, c5, rfl⟩ : ∃ c0 c1 c2 c3 c4 c5, cs' = [c0, c1, c2, c3, c4, c5] := by
    match cs', hl with
    | [a, b, c, d, e, f], _ => exact ⟨_, _, _, _, _, _, rfl⟩
  have hlen : xs.length = 4 := hlen
  have g : ∀ i, i < 4 → ∃ x, xs[i]? = some x := fun i hi => ⟨_, List.getElem?_eq_getElem (by omega)⟩
  obtain ⟨x0, g0⟩ := g 0 (by omega)
  obtain ⟨x1, g1⟩ := g 1 (by omega)
  obtain ⟨x2, g2⟩ := g 2 (by omega)
  obtain ⟨x3, g3⟩ := g 3 (by omega)
  have h0 : DataW.trod enc Try.prog W base (fun _ => true) held k 48 (([c0, c1, c2, c3, c4, c5].drop 0).take (Try.prog.cellsOf 48)) = xs[0]? := hf 0 _ rfl
  have h1 : DataW.trod enc Try.prog W base (fun _ => true) held k 49 (([c0, c1, c2, c3, c4, c5].drop 1).take (Try.prog.cellsOf 49)) = xs[1]? := hf 1 _ rfl
  have h2 : DataW.trod enc Try.prog W base (fun _ => true) held k 50 (([c0, c1, c2, c3, c4, c5].drop 2).take (Try.prog.cellsOf 50)) = xs[2]? := hf 2 _ rfl
  have h3 : DataW.trod enc Try.prog W base (fun _ => true) held k 52 (([c0, c1, c2, c3, c4, c5].drop 3).take (Try.prog.cellsOf 52)) = xs[3]? := hf 3 _ rfl
  rw [cellsFlT, g0] at h0
  rw [cellsFlC, g1] at h1
  rw [cellsFlD, g2] at h2
  rw [cellsTsC, g3] at h3
  have h0 : DataW.trod enc Try.prog W base (fun _ => true) held k 48 [c0] = some x0 := h0
  have h1 : DataW.trod enc Try.prog W base (fun _ => true) held k 49 [c1] = some x1 := h1
  have h2 : DataW.trod enc Try.prog W base (fun _ => true) held k 50 [c2] = some x2 := h2
  have h3 : DataW.trod enc Try.prog W base (fun _ => true) held k 52 [c3, c4, c5] = some x3 := h3
  obtain ⟨a1, l1, p1, ts, e0, ⟨r0, f0⟩, _, _⟩ := rowTk_of h0
  obtain ⟨a2, l2, p2, cr, e1, ⟨r1, f1⟩, _, _⟩ := rowCr_of h1
  obtain ⟨a3, l3, p3, df, e2, ⟨r2, f2⟩, _, _⟩ := rowDf_of h2
  obtain ⟨k2, hk2⟩ := fields_of1 Try.underlying52 (by kernel_rfl) rfl h3
  obtain ⟨d0, y0, z0, t0⟩ := hk2 0 _ rfl
  obtain ⟨d1, y1, z1, t1⟩ := hk2 1 _ rfl
  obtain ⟨d2, y2, z2, t2⟩ := hk2 2 _ rfl
  obtain ⟨b0, u0, _, _⟩ := DataW.trod_int Try.underlying3 t0
  obtain ⟨b1, u1, _, _⟩ := DataW.trod_int Try.underlying3 t1
  obtain ⟨b2, u2, _, _⟩ := DataW.trod_int Try.underlying3 t2
  simp only [List.getElem?_cons_zero, List.getElem?_cons_succ, Option.some.injEq] at z0 z1 z2
  simp only [List.cons.injEq, and_true] at u0 u1 u2
  subst z0 z1 z2 u0 u1 u2 e0 e1 e2
  exact ⟨b0, b1, b2, a1, a2, a3, l1, p1, l2, p2, l3, p3, ts, cr, df, rfl, ⟨r0, r1, r2⟩, f0, f1, f2⟩

end Go.Proofs.Ytglefolkecimabd
