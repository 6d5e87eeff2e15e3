/-
  How lists of bytes are opened: they can be read, and each is a byte. No condition.
  How a load and a list of loads are opened: their cells, the text's size, the bytes that can be read. No condition.
-/
import Derived.Test.YtemodlgmjgdjpaaGreatDoorMOpen
import Derived.Test.YtemodlgmjgdjpaaGreatDoorOpenE
import Derived.Test.YtemodlgmjgdjpaaGreatDoorArr
import Derived.Test.YtemodlgmjgdjpaaGreatDoorMRowBy
import Derived.Laws.Cover2

namespace Go.Proofs.YtemodlgmjgdjpaaGreatDoor
open Go.ChangeShapes Go.WideShapes Go.ChangeAt Go.RowKit Go.Joins Go.Deep

theorem cellsBy : Tryz.prog.cellsOf 5 = 1 := by kernel_rfl
/-- Each is a byte. -/
def BytesIn (zs : List Int) : Prop := ∀ i, i < zs.length → 0 ≤ elAt zs i ∧ elAt zs i ≤ 255
theorem rowBy_all {H : Type} {enc : TypeId × Value → H} {W : World} {base fuel : Nat} {held : Bool} {v : Value} {y : DataW H × List MemPlace}
    (h : DataW.trod enc Tryz.prog W base (fun _ => true) held fuel 22 [v] = some y) :
    ∃ a len cap ps, v = .slice a len cap ∧ RowE 1 byC W a len ps ∧ len ≤ cap ∧ ∀ i, i < len → 0 ≤ elAt ps i ∧ elAt ps i ≤ 255 :=
  rowE_of (Pr := fun x : Int => 0 ≤ x ∧ x ≤ 255) Tryz.underlying22 cellsBy (by omega) (fun n cs y hl h => by
    obtain ⟨x, e, _, hw⟩ := DataW.trod_int Tryz.underlying5 h
    subst e
    exact ⟨x, bounds_u8 hw, fun q hq => by obtain rfl : q = 0 := by omega
                                           rfl⟩) h
theorem rowBy_of {H : Type} {enc : TypeId × Value → H} {W : World} {base fuel : Nat} {held : Bool} {v : Value} {y : DataW H × List MemPlace}
    (h : DataW.trod enc Tryz.prog W base (fun _ => true) held fuel 22 [v] = some y) :
    ∃ a len cap ps, v = .slice a len cap ∧ (RowE 1 byC W a len ps ∧ BytesIn ps) ∧ len ≤ cap ∧ True := by
  obtain ⟨a, len, cap, ps, e, hr, hc, hb⟩ := rowBy_all h
  exact ⟨a, len, cap, ps, e, ⟨hr, fun i hi => hb i (by have := hr.len_eq; omega)⟩, hc, trivial⟩

end Go.Proofs.YtemodlgmjgdjpaaGreatDoor

namespace Go.Proofs.YtemodlgmjgdjpaaGreatDoor
open Go.ChangeShapes Go.WideShapes Go.ChangeAt Go.RowKit Go.Joins Go.Deep

/-- A load as it lies. -/
structure Lx where
  p : ByteArray
  nb : Int
  le : Int
  mo : Int
  ne : Int
  d : Sl
instance : Inhabited Lx := ⟨⟨⟨#[]⟩, 0, 0, 0, 0, default⟩⟩
def lxC (x : Lx) : Nat → Value
  | 0 => .string x.p
  | 1 => .int .i64 x.nb
  | 2 => .int .i64 x.le
  | 3 => .int .i64 x.mo
  | 4 => .int .i64 x.ne
  | _ => slV x.d
/-- What can be read of it in a world, and that its text has a size. -/
structure LxIn (W : World) (x : Lx) : Prop where
  sl : SlIn W x.d
  sz : x.p.size ≤ 9223372036854775807
theorem cellsStr : Tryz.prog.cellsOf 9 = 1 := by kernel_rfl
theorem cellsI64 : Tryz.prog.cellsOf 3 = 1 := by kernel_rfl
theorem cellsFits : Tryz.prog.cellsOf 48 = 2 := by kernel_rfl
theorem cellsBys : Tryz.prog.cellsOf 22 = 1 := by kernel_rfl
theorem cellsLd : Tryz.prog.cellsOf 50 = 6 := by kernel_rfl
set_option maxRecDepth 20000 in
theorem load_of {H : Type} {enc : TypeId × Value → H} {W : World} {base fuel : Nat} {held : Bool} {cs : List Value} {y : DataW H × List MemPlace} (hl : cs.length = 6)
    (h : DataW.trod enc Tryz.prog W base (fun _ => true) held fuel 50 cs = some y) :
    ∃ x : Lx, cs = [.string x.p, .int .i64 x.nb, .int .i64 x.le, .int .i64 x.mo, .int .i64 x.ne, .slice x.d.a x.d.n x.d.c] ∧ LxIn W x := by
  obtain ⟨xs, k, _, _, _, hlen, hf⟩ := DataW.trod_struct Tryz.underlying50 h
  obtain ⟨c0, c1, c2, c3, c4, c5, rfl⟩ : ∃ c0 c1 c2 c3 c4 c5, cs = [c0, c1, c2, c3, c4, c5] := by
    match cs, hl with
    | [a, b, c, d, e, f], _ => exact ⟨_, _, _, _, _, _, rfl⟩
  have hlen : xs.length = 5 := hlen
  have g : ∀ i, i < 5 → ∃ x, xs[i]? = some x := fun i hi => ⟨_, List.getElem?_eq_getElem (by omega)⟩
  obtain ⟨x0, g0⟩ := g 0 (by omega)
  obtain ⟨x1, g1⟩ := g 1 (by omega)
  obtain ⟨x2, g2⟩ := g 2 (by omega)
  obtain ⟨x3, g3⟩ := g 3 (by omega)
  obtain ⟨x4, g4⟩ := g 4 (by omega)
  have h0 : DataW.trod enc Tryz.prog W base (fun _ => true) held k 9 (([c0, c1, c2, c3, c4, c5].drop 0).take (Tryz.prog.cellsOf 9)) = xs[0]? := hf 0 _ rfl
  have h1 : DataW.trod enc Tryz.prog W base (fun _ => true) held k 3 (([c0, c1, c2, c3, c4, c5].drop 1).take (Tryz.prog.cellsOf 3)) = xs[1]? := hf 1 _ rfl
  have h2 : DataW.trod enc Tryz.prog W base (fun _ => true) held k 48 (([c0, c1, c2, c3, c4, c5].drop 2).take (Tryz.prog.cellsOf 48)) = xs[2]? := hf 2 _ rfl
  have h3 : DataW.trod enc Tryz.prog W base (fun _ => true) held k 3 (([c0, c1, c2, c3, c4, c5].drop 4).take (Tryz.prog.cellsOf 3)) = xs[3]? := hf 3 _ rfl
  have h4 : DataW.trod enc Tryz.prog W base (fun _ => true) held k 22 (([c0, c1, c2, c3, c4, c5].drop 5).take (Tryz.prog.cellsOf 22)) = xs[4]? := hf 4 _ rfl
  rw [cellsStr, g0] at h0
  rw [cellsI64, g1] at h1
  rw [cellsFits, g2] at h2
  rw [cellsI64, g3] at h3
  rw [cellsBys, g4] at h4
  have h0 : DataW.trod enc Tryz.prog W base (fun _ => true) held k 9 [c0] = some x0 := h0
  have h1 : DataW.trod enc Tryz.prog W base (fun _ => true) held k 3 [c1] = some x1 := h1
  have h2 : DataW.trod enc Tryz.prog W base (fun _ => true) held k 48 [c2, c3] = some x2 := h2
  have h3 : DataW.trod enc Tryz.prog W base (fun _ => true) held k 3 [c4] = some x3 := h3
  have h4 : DataW.trod enc Tryz.prog W base (fun _ => true) held k 22 [c5] = some x4 := h4
  obtain ⟨p, e0, _, w0⟩ := DataW.trod_string Tryz.underlying9 h0
  obtain ⟨nb, e1, _, _⟩ := DataW.trod_int Tryz.underlying3 h1
  obtain ⟨ne, e3, _, _⟩ := DataW.trod_int Tryz.underlying3 h3
  obtain ⟨k2, hk2⟩ := fields_of1 Tryz.underlying48 (by kernel_rfl) rfl h2
  obtain ⟨d0, y0, z0, t0⟩ := hk2 0 _ rfl
  obtain ⟨d1, y1, z1, t1⟩ := hk2 1 _ rfl
  obtain ⟨le, u0, _, _⟩ := DataW.trod_int Tryz.underlying3 t0
  obtain ⟨mo, u1, _, _⟩ := DataW.trod_int Tryz.underlying3 t1
  obtain ⟨a, len, cap, ps, e4, hr, hc, hb⟩ := rowBy_all h4
  simp only [List.getElem?_cons_zero, List.getElem?_cons_succ, Option.some.injEq] at z0 z1
  simp only [List.cons.injEq, and_true] at e0 e1 e3 u0 u1
  subst z0 z1 e0 e1 e3 u0 u1 e4
  exact ⟨⟨p, nb, le, mo, ne, ⟨a, len, cap, ps⟩⟩, rfl, ⟨⟨hr, hc, hb⟩, by unfold maxLen at w0; exact w0⟩⟩
set_option maxRecDepth 20000 in
/-- A load that is an argument. -/
theorem load_arg {H : Type} {enc : TypeId × Value → H} {W : World} {base b0 : Nat} {held : Bool} {r : Reach} {v : Value} {d : DataW H} {q : List MemPlace}
    (hv : Value.okWide Tryz.prog W r b0 50 v) (h : DataW.Trod enc Tryz.prog W base (fun _ => true) held 50 v d q) :
    ∃ x : Lx, v = .agg #[.string x.p, .int .i64 x.nb, .int .i64 x.le, .int .i64 x.mo, .int .i64 x.ne, .slice x.d.a x.d.n x.d.c] ∧ LxIn W x := by
  obtain ⟨cs, rfl, hsz⟩ := okWide_struct Tryz.underlying50 hv
  obtain ⟨fuel, hf⟩ := h
  obtain ⟨x, e, hx⟩ := load_of (cs := cs.toList) (by rw [Array.length_toList, hsz, cellsLd]) (by simpa [Value.cells] using hf)
  refine ⟨x, ?_, hx⟩
  rw [← Array.toArray_toList (xs := cs), e]
set_option maxRecDepth 20000 in
/-- A list of loads. -/
theorem rowLd_of {H : Type} {enc : TypeId × Value → H} {W : World} {base fuel : Nat} {held : Bool} {v : Value} {y : DataW H × List MemPlace}
    (h : DataW.trod enc Tryz.prog W base (fun _ => true) held fuel 45 [v] = some y) :
    ∃ a len cap ps, v = .slice a len cap ∧ RowE 6 lxC W a len ps ∧ len ≤ cap ∧ ∀ i, i < len → LxIn W (elAt ps i) :=
  rowE_of (Pr := fun x : Lx => LxIn W x) Tryz.underlying45 cellsLd (by omega) (fun n cs y hl h => by
    obtain ⟨x, e, hx⟩ := load_of hl h
    subst e
    refine ⟨x, hx, fun q hq => ?_⟩
    match q, hq with
    | 0, _ => rfl
    | 1, _ => rfl
    | 2, _ => rfl
    | 3, _ => rfl
    | 4, _ => rfl
    | 5, _ => rfl) h

end Go.Proofs.YtemodlgmjgdjpaaGreatDoor
