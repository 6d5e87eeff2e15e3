/-
  A fleet's lists, read; made by a call, each in memory of its own; where they lie. No condition.
  How a fleet is opened: its three lists and three numbers. No condition.
-/
import Derived.Test.YtglefolkecimabcGreatMaPure
import Derived.Test.YtglefolkecimabcGreatBk1
import Derived.Test.YtglefolkecimabcGreatOp1

namespace Go.Proofs.YtglefolkecimabcGreat
open Go.RowKit

/-- Its lists, read. -/
structure FlIn (w : World) (a1 a2 a3 : Option Addr) (l1 l2 l3 : Nat) (z1 : List Ts) (z2 : List Cr) (z3 : List Df) : Prop where
  r1 : RowE 7 tsC w a1 l1 z1
  r2 : RowE 3 crC w a2 l2 z2
  r3 : RowE 3 dfC w a3 l3 z3
theorem FlIn.below {w w' : World} {a1 a2 a3 : Option Addr} {l1 l2 l3 : Nat} {z1 : List Ts} {z2 : List Cr} {z3 : List Df} (h : FlIn w a1 a2 a3 l1 l2 l3 z1 z2 z3) (k : Below w.heap.size w w') : FlIn w' a1 a2 a3 l1 l2 l3 z1 z2 z3 :=
  ⟨h.r1.below k, h.r2.below k, h.r3.below k⟩
/-- Its lists that a call has made, each in memory of its own. -/
structure FlOwn (w : World) (base : Nat) (a1 a2 a3 : Option Addr) (l1 c1 l2 c2 l3 c3 : Nat) (z1 : List Ts) (z2 : List Cr) (z3 : List Df) : Prop where
  o1 : OwnE 7 tsC w base 93 (.slice a1 l1 c1) z1
  o2 : OwnE 3 crC w base 101 (.slice a2 l2 c2) z2
  o3 : OwnE 3 dfC w base 95 (.slice a3 l3 c3) z3
  p12 : ∀ g, (Value.slice a1 l1 c1).ownBlock = some g → (Value.slice a2 l2 c2).ownBlock ≠ some g
  p13 : ∀ g, (Value.slice a1 l1 c1).ownBlock = some g → (Value.slice a3 l3 c3).ownBlock ≠ some g
  p23 : ∀ g, (Value.slice a2 l2 c2).ownBlock = some g → (Value.slice a3 l3 c3).ownBlock ≠ some g
theorem FlOwn.below {w w' : World} {base : Nat} {a1 a2 a3 : Option Addr} {l1 c1 l2 c2 l3 c3 : Nat} {z1 : List Ts} {z2 : List Cr} {z3 : List Df} (h : FlOwn w base a1 a2 a3 l1 c1 l2 c2 l3 c3 z1 z2 z3) (k : Below w.heap.size w w') : FlOwn w' base a1 a2 a3 l1 c1 l2 c2 l3 c3 z1 z2 z3 :=
  ⟨h.o1.below k, h.o2.below k, h.o3.below k, h.p12, h.p13, h.p23⟩
theorem FlOwn.mono {w : World} {base : Nat} {a1 a2 a3 : Option Addr} {l1 c1 l2 c2 l3 c3 : Nat} {z1 : List Ts} {z2 : List Cr} {z3 : List Df} (h : FlOwn w base a1 a2 a3 l1 c1 l2 c2 l3 c3 z1 z2 z3) {base' : Nat} (hb : base' ≤ base) : FlOwn w base' a1 a2 a3 l1 c1 l2 c2 l3 c3 z1 z2 z3 :=
  ⟨h.o1.mono hb, h.o2.mono hb, h.o3.mono hb, h.p12, h.p13, h.p23⟩
theorem FlOwn.read {w : World} {base : Nat} {a1 a2 a3 : Option Addr} {l1 c1 l2 c2 l3 c3 : Nat} {z1 : List Ts} {z2 : List Cr} {z3 : List Df} (h : FlOwn w base a1 a2 a3 l1 c1 l2 c2 l3 c3 z1 z2 z3) : FlIn w a1 a2 a3 l1 l2 l3 z1 z2 z3 :=
  ⟨h.o1.row, h.o2.row, h.o3.row⟩
/-- Blocks of its lists lie from base on, below a number. -/
def FlLies (base hi : Nat) (a1 a2 a3 : Option Addr) (l1 c1 l2 c2 l3 c3 : Nat) : Prop :=
  (∀ g, (Value.slice a1 l1 c1).ownBlock = some g → base ≤ g ∧ g < hi) ∧ (∀ g, (Value.slice a2 l2 c2).ownBlock = some g → base ≤ g ∧ g < hi) ∧ (∀ g, (Value.slice a3 l3 c3).ownBlock = some g → base ≤ g ∧ g < hi)
theorem FlOwn.lies {w : World} {base : Nat} {a1 a2 a3 : Option Addr} {l1 c1 l2 c2 l3 c3 : Nat} {z1 : List Ts} {z2 : List Cr} {z3 : List Df} (h : FlOwn w base a1 a2 a3 l1 c1 l2 c2 l3 c3 z1 z2 z3) : FlLies base w.heap.size a1 a2 a3 l1 c1 l2 c2 l3 c3 :=
  ⟨h.o1.lies, h.o2.lies, h.o3.lies⟩
theorem FlOwn.only {w w' : World} {base : Nat} {a1 a2 a3 : Option Addr} {l1 c1 l2 c2 l3 c3 : Nat} {z1 : List Ts} {z2 : List Cr} {z3 : List Df} {lo hi b u : Nat} (h : FlOwn w base a1 a2 a3 l1 c1 l2 c2 l3 c3 z1 z2 z3) (k : Only lo hi w w') (hl : FlLies b u a1 a2 a3 l1 c1 l2 c2 l3 c3) (hs : u ≤ lo ∨ hi ≤ b) : FlOwn w' base a1 a2 a3 l1 c1 l2 c2 l3 c3 z1 z2 z3 :=
  ⟨h.o1.only k (fun g hg => by have := hl.1 g hg; omega), h.o2.only k (fun g hg => by have := hl.2.1 g hg; omega), h.o3.only k (fun g hg => by have := hl.2.2 g hg; omega), h.p12, h.p13, h.p23⟩
theorem FlOwn.set_other {w : World} {base : Nat} {a1 a2 a3 : Option Addr} {l1 c1 l2 c2 l3 c3 : Nat} {z1 : List Ts} {z2 : List Cr} {z3 : List Df} (h : FlOwn w base a1 a2 a3 l1 c1 l2 c2 l3 c3 z1 z2 z3) {S o : Nat} (u : Value) (n1 : (Value.slice a1 l1 c1).ownBlock ≠ some S) (n2 : (Value.slice a2 l2 c2).ownBlock ≠ some S) (n3 : (Value.slice a3 l3 c3).ownBlock ≠ some S) : FlOwn (w.setCell ⟨S, o, none⟩ u) base a1 a2 a3 l1 c1 l2 c2 l3 c3 z1 z2 z3 :=
  ⟨h.o1.set_other u n1, h.o2.set_other u n2, h.o3.set_other u n3, h.p12, h.p13, h.p23⟩

end Go.Proofs.YtglefolkecimabcGreat

namespace Go.Proofs.YtglefolkecimabcGreat
open Go.ChangeShapes Go.WideShapes Go.ChangeAt Go.RowKit Go.Joins Go.Deep

theorem cellsFlT : Tryz.prog.cellsOf 22 = 1 := by kernel_rfl
theorem cellsFlC : Tryz.prog.cellsOf 23 = 1 := by kernel_rfl
theorem cellsFlD : Tryz.prog.cellsOf 24 = 1 := by kernel_rfl
theorem cellsFl : Tryz.prog.cellsOf 28 = 6 := by kernel_rfl
set_option maxRecDepth 20000 in
/-- A fleet that is an argument. -/
theorem fleet_arg {H : Type} {enc : TypeId × Value → H} {W : World} {base b0 : Nat} {held : Bool} {r : Reach} {v : Value} {d : DataW H} {q : List MemPlace}
    (hv : Value.okWide Tryz.prog W r b0 28 v) (h : DataW.Trod enc Tryz.prog W base (fun _ => true) held 28 v d q) :
    ∃ nh nc nd a1 a2 a3 l1 c1 l2 c2 l3 c3 ts cs ds, v = .agg #[.slice a1 l1 c1, .slice a2 l2 c2, .slice a3 l3 c3, .int .i64 nh, .int .i64 nc, .int .i64 nd] ∧ FlIn W a1 a2 a3 l1 l2 l3 ts cs ds ∧ (∀ i, fitT (elAt ts i).nm) ∧ (∀ i, fitT (elAt cs i).n) ∧ (∀ i, fitT (elAt ds i).n) := by
  obtain ⟨cs, rfl, hsz⟩ := okWide_struct Tryz.underlying28 hv
  obtain ⟨fuel, hf0⟩ := h
  have hl : cs.toList.length = 6 := by rw [Array.length_toList, hsz, cellsFl]
  have h : DataW.trod enc Tryz.prog W base (fun _ => true) held fuel 28 cs.toList = some (d, q) := by simpa [Value.cells] using hf0
  rw [← Array.toArray_toList (xs := cs)]
  generalize cs.toList = cs' at hl h
  clear hf0 hv hsz
  obtain ⟨xs, k, _, _, _, hlen, hf⟩ := DataW.trod_struct Tryz.underlying28 h
  obtain ⟨c0, c1, c2, c3, c4, c5, rfl⟩ : ∃ c0 c1 c2 c3 c4 c5, cs' = [c0, c1, c2, c3, c4, c5] := by
    match cs', hl with
    | [a, b, c, d, e, f], _ => exact ⟨_, _, _, _, _, _, rfl⟩
  have hlen : xs.length = 4 := hlen
  have g : ∀ i, i < 4 → ∃ x, xs[i]? = some x := fun i hi => ⟨_, List.getElem?_eq_getElem (by omega)⟩
  obtain ⟨x0, g0⟩ := g 0 (by omega)
  obtain ⟨x1, g1⟩ := g 1 (by omega)
  obtain ⟨x2, g2⟩ := g 2 (by omega)
  obtain ⟨x3, g3⟩ := g 3 (by omega)
  have h0 : DataW.trod enc Tryz.prog W base (fun _ => true) held k 22 (([c0, c1, c2, c3, c4, c5].drop 0).take (Tryz.prog.cellsOf 22)) = xs[0]? := hf 0 _ rfl
  have h1 : DataW.trod enc Tryz.prog W base (fun _ => true) held k 23 (([c0, c1, c2, c3, c4, c5].drop 1).take (Tryz.prog.cellsOf 23)) = xs[1]? := hf 1 _ rfl
  have h2 : DataW.trod enc Tryz.prog W base (fun _ => true) held k 24 (([c0, c1, c2, c3, c4, c5].drop 2).take (Tryz.prog.cellsOf 24)) = xs[2]? := hf 2 _ rfl
  have h3 : DataW.trod enc Tryz.prog W base (fun _ => true) held k 26 (([c0, c1, c2, c3, c4, c5].drop 3).take (Tryz.prog.cellsOf 26)) = xs[3]? := hf 3 _ rfl
  rw [cellsFlT, g0] at h0
  rw [cellsFlC, g1] at h1
  rw [cellsFlD, g2] at h2
  rw [cellsTsC, g3] at h3
  have h0 : DataW.trod enc Tryz.prog W base (fun _ => true) held k 22 [c0] = some x0 := h0
  have h1 : DataW.trod enc Tryz.prog W base (fun _ => true) held k 23 [c1] = some x1 := h1
  have h2 : DataW.trod enc Tryz.prog W base (fun _ => true) held k 24 [c2] = some x2 := h2
  have h3 : DataW.trod enc Tryz.prog W base (fun _ => true) held k 26 [c3, c4, c5] = some x3 := h3
  obtain ⟨a1, l1, p1, ts, e0, ⟨r0, f0⟩, _, _⟩ := rowTk_of h0
  obtain ⟨a2, l2, p2, cr, e1, ⟨r1, f1⟩, _, _⟩ := rowCr_of h1
  obtain ⟨a3, l3, p3, df, e2, ⟨r2, f2⟩, _, _⟩ := rowDf_of h2
  obtain ⟨k2, hk2⟩ := fields_of1 Tryz.underlying26 (by kernel_rfl) rfl h3
  obtain ⟨d0, y0, z0, t0⟩ := hk2 0 _ rfl
  obtain ⟨d1, y1, z1, t1⟩ := hk2 1 _ rfl
  obtain ⟨d2, y2, z2, t2⟩ := hk2 2 _ rfl
  obtain ⟨b0, u0, _, _⟩ := DataW.trod_int Tryz.underlying3 t0
  obtain ⟨b1, u1, _, _⟩ := DataW.trod_int Tryz.underlying3 t1
  obtain ⟨b2, u2, _, _⟩ := DataW.trod_int Tryz.underlying3 t2
  simp only [List.getElem?_cons_zero, List.getElem?_cons_succ, Option.some.injEq] at z0 z1 z2
  simp only [List.cons.injEq, and_true] at u0 u1 u2
  subst z0 z1 z2 u0 u1 u2 e0 e1 e2
  exact ⟨b0, b1, b2, a1, a2, a3, l1, p1, l2, p2, l3, p3, ts, cr, df, rfl, ⟨r0, r1, r2⟩, f0, f1, f2⟩

end Go.Proofs.YtglefolkecimabcGreat
