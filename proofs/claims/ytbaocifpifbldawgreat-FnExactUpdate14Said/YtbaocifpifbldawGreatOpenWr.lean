/-
  How an argument is opened that is a slice of rules, or of texts. No condition.
-/
import Derived.Test.YtbaocifpifbldawGreatOpen
import Derived.Test.YtbaocifpifbldawGreatOpenE
import Derived.Test.YtbaocifpifbldawGreatWrRow
import Derived.Test.YtbaocifpifbldawGreatText1
namespace Go.Proofs.YtbaocifpifbldawGreat
open Go.ChangeShapes Go.WideShapes Go.ChangeAt Go.RowKit Go.Joins Go.Deep

theorem cellsTx : Tryz.prog.cellsOf 9 = 1 := by kernel_rfl
theorem rowTx_of {H : Type} {enc : TypeId × Value → H} {W : World} {base fuel : Nat} {held : Bool} {v : Value} {y : DataW H × List MemPlace}
    (h : DataW.trod enc Tryz.prog W base (fun _ => true) held fuel 23 [v] = some y) :
    ∃ a len cap ts, v = .slice a len cap ∧ (RowE 1 stC W a len ts ∧ ∀ i, i < len → (elAt ts i).size ≤ 9223372036854775807) ∧ len ≤ cap ∧ True := by
  obtain ⟨a, len, cap, ts, hv, hr, hc, hp⟩ := rowE_of (cells := stC) (Pr := fun s => s.size ≤ 9223372036854775807) Tryz.underlying23 cellsTx (by omega) (fun n cs y hl h => by
    match cs, hl with
    | [c], _ =>
      obtain ⟨b0, f0, _, s0⟩ := DataW.trod_string Tryz.underlying9 h
      simp only [List.cons.injEq, and_true] at f0
      subst f0
      refine ⟨b0, by unfold maxLen at s0; exact s0, fun q hq => ?_⟩
      obtain rfl : q = 0 := by omega
      rfl) h
  exact ⟨a, len, cap, ts, hv, ⟨hr, hp⟩, hc, trivial⟩
/-- A rule, and where its phases lie. -/
structure WqO where
  p : Wr
  a : Option Addr
  l : Nat
  c : Nat
instance : Inhabited WqO := ⟨⟨default, none, 0, 0⟩⟩
def wqOC (x : WqO) : Nat → Value
  | 0 => .string x.p.n
  | 1 => .int .i64 x.p.r
  | 2 => .slice x.a x.l x.c
  | 3 => .bool x.p.l
  | _ => .string x.p.d
theorem cellsWr : Tryz.prog.cellsOf 45 = 5 := by kernel_rfl
theorem rowWr_of {H : Type} {enc : TypeId × Value → H} {W : World} {base fuel : Nat} {held : Bool} {v : Value} {y : DataW H × List MemPlace}
    (h : DataW.trod enc Tryz.prog W base (fun _ => true) held fuel 22 [v] = some y) :
    ∃ a len cap rs, v = .slice a len cap ∧ RowW W a len rs ∧ len ≤ cap ∧ True := by
  obtain ⟨a, len, cap, xs, hv, hr, hc, hp⟩ := rowE_of (cells := wqOC) (Pr := fun x => Row W x.a x.l x.p.q ∧ x.l ≤ x.c ∧ wrFit x.p) Tryz.underlying22 cellsWr (by omega) (fun n cs y hl h => by
    obtain ⟨k, hf⟩ := fields_of1 Tryz.underlying45 (by kernel_rfl) hl h
    obtain ⟨c0, y0, e0, t0⟩ := hf 0 _ rfl
    obtain ⟨c1, y1, e1, t1⟩ := hf 1 _ rfl
    obtain ⟨c2, y2, e2, t2⟩ := hf 2 _ rfl
    obtain ⟨c3, y3, e3, t3⟩ := hf 3 _ rfl
    obtain ⟨c4, y4, e4, t4⟩ := hf 4 _ rfl
    obtain ⟨b0, f0, _, s0⟩ := DataW.trod_string Tryz.underlying9 t0
    obtain ⟨b1, f1, _, w1⟩ := DataW.trod_int Tryz.underlying3 t1
    obtain ⟨qa, ql, qc, q, f2, rq, hq⟩ := row_of t2
    obtain ⟨b3, f3, _⟩ := DataW.trod_bool Tryz.underlying4 t3
    obtain ⟨b4, f4, _, s4⟩ := DataW.trod_string Tryz.underlying9 t4
    simp only [List.cons.injEq, and_true] at f0 f1 f3 f4
    subst f0 f1 f2 f3 f4
    unfold maxLen at s0 s4
    refine ⟨⟨⟨b0, b1, q, b3, b4⟩, qa, ql, qc⟩, ⟨rq, hq, s0, s4⟩, fun j hj => ?_⟩
    have hj' : j = 0 ∨ j = 1 ∨ j = 2 ∨ j = 3 ∨ j = 4 := by omega
    rcases hj' with rfl | rfl | rfl | rfl | rfl <;> assumption) h
  have el : ∀ i, i < len → elAt (xs.map (·.p)) i = (elAt xs i).p := fun i hi => by
    have := hr.len_eq
    simp [elAt, show i < xs.length by omega]
  refine ⟨a, len, cap, xs.map (·.p), hv, ⟨by simp [hr.len_eq], hr.small, fun i hi => ?_⟩, hc, trivial⟩
  rcases hr.open_ with ⟨h0, _⟩ | ⟨b, off, e, _, hcs⟩
  · omega
  · have hpi := hp i hi
    rw [el i hi]
    exact ⟨b, off, (elAt xs i).a, (elAt xs i).l, (elAt xs i).c, e, ⟨hcs i hi 0 (by omega), hcs i hi 1 (by omega), hcs i hi 2 (by omega), hcs i hi 3 (by omega), hcs i hi 4 (by omega)⟩, hpi.1, hpi.2.1, hpi.2.2⟩

end Go.Proofs.YtbaocifpifbldawGreat
