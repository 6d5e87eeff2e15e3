/-
  What the seat's walks share: a slice of whole numbers read as a list (its length and its cells), and small pure functions on lists. No condition.
-/
import Derived.WalkKit
import Derived.ProofKit
import Derived.OpenShut
import Derived.ShutString
import Derived.ChangeOld
import Derived.Below
import Derived.WalkSmall
import Derived.Deep.QuietTactic
import Derived.BigQuiet
import Derived.Deep.RegionWith
import Derived.Deep.RegionHeld3
namespace Go.Proofs.Ytomcbbpaajpeiaa
open Go.RowKit

theorem ret_int {k : IntKind} {a b : Int} (h : a = b) : Ending.returned (.int k a) = .returned (.int k b) := by rw [h]
theorem ret_bool {a b : Bool} (h : a = b) : Ending.returned (.bool a) = .returned (.bool b) := by rw [h]

/-- The number at a place of a list; 0 where there is none. -/
def nth (zs : List Int) (i : Nat) : Int := zs[i]?.getD 0

/-- A slice of whole numbers at address a, of length len, reads as zs. -/
structure Row (w : World) (a : Option Addr) (len : Nat) (zs : List Int) : Prop where
  len_eq : zs.length = len
  small : len ≤ 9223372036854775807
  cells : ∀ i, i < len → ∃ b off, a = some ⟨b, off, none⟩ ∧ w.cell? ⟨b, off + i, none⟩ = some (.int .i64 (nth zs i))
  fit : ∀ i : Nat, -9223372036854775808 ≤ nth zs i ∧ nth zs i ≤ 9223372036854775807

theorem Row.open_ {w : World} {a : Option Addr} {len : Nat} {zs : List Int} (h : Row w a len zs) :
    (len = 0 ∧ zs = []) ∨ ∃ b off, a = some ⟨b, off, none⟩ ∧ 0 < len ∧ ∀ i, i < len → w.cell? ⟨b, off + i, none⟩ = some (.int .i64 (nth zs i)) := by
  by_cases h0 : len = 0
  · exact .inl ⟨h0, List.length_eq_zero_iff.1 (by rw [h.len_eq, h0])⟩
  · obtain ⟨b, off, ha, _⟩ := h.cells 0 (by omega)
    refine .inr ⟨b, off, ha, by omega, fun i hi => ?_⟩
    obtain ⟨b', off', ha', hc⟩ := h.cells i hi
    rw [ha] at ha'
    simp only [Option.some.injEq, Addr.mk.injEq] at ha'
    obtain ⟨rfl, rfl, _⟩ := ha'
    exact hc

theorem Row.of_cells {w w' : World} {a : Option Addr} {len : Nat} {zs : List Int} (h : Row w a len zs) (k : ∀ p : Addr, p.block < w.heap.size → w'.cell? p = w.cell? p) : Row w' a len zs := by
  refine ⟨h.len_eq, h.small, fun i hi => ?_, h.fit⟩
  obtain ⟨b, off, ha, hc⟩ := h.cells i hi
  refine ⟨b, off, ha, ?_⟩
  rw [k _ (block_lt_of_cell hc)]
  exact hc

theorem Row.below {w w' : World} {a : Option Addr} {len : Nat} {zs : List Int} (h : Row w a len zs) (k : Below w.heap.size w w') : Row w' a len zs :=
  h.of_cells fun _ hp => k.cell hp

theorem Row.alloc {w : World} {a : Option Addr} {len : Nat} {zs : List Int} (h : Row w a len zs) (o : Obj) : Row (w.alloc o) a len zs :=
  h.below ((Below.refl _ _).alloc (Nat.le_refl _) o)

theorem Row.setCell {w : World} {g : Nat} {len : Nat} {zs : List Int} (h : Row w (some ⟨g, 0, none⟩) len zs) {p : Addr} (hp : p.block ≠ g) (v : Value) : Row (w.setCell p v) (some ⟨g, 0, none⟩) len zs := by
  refine ⟨h.len_eq, h.small, fun i hi => ?_, h.fit⟩
  obtain ⟨b, off, ha, hc⟩ := h.cells i hi
  simp only [Option.some.injEq, Addr.mk.injEq, and_true] at ha
  obtain ⟨rfl, rfl⟩ := ha
  refine ⟨_, _, rfl, ?_⟩
  exact (World.cell?_setCell_other w _ _ _ (by intro e; rw [e] at hp; exact hp rfl)).trans hc

theorem Row.drewN {w : World} {a : Option Addr} {len : Nat} {zs : List Int} (h : Row w a len zs) (n : Nat) : Row (w.drewN n) a len zs :=
  h.of_cells fun _ _ => rfl

theorem hide {p : Prop} (h : p) : Hid p := h
theorem unhide {p : Prop} (h : Hid p) : p := h

theorem quietSame {P : Program} {f : FuncId} {args : Array Value} {X : World} {a n : Nat} {v : Value}
    (h : Calls P f args (X.drewN (a + n)) fun e w' => e = .returned v ∧ w' = X.drewN (a + n)) : Calls P f args (X.drewN (a + n)) fun e w'' => e = .returned v ∧ ∃ m, w'' = X.drewN (a + m) :=
  h.mono fun _ _ ⟨he, hm⟩ => ⟨he, n, hm⟩
theorem quietMore {P : Program} {f : FuncId} {args : Array Value} {X : World} {a n : Nat} {v : Value}
    (h : Calls P f args (X.drewN (a + n)) fun e w' => e = .returned v ∧ ∃ m, w' = (X.drewN (a + n)).drewN m) : Calls P f args (X.drewN (a + n)) fun e w'' => e = .returned v ∧ ∃ m, w'' = X.drewN (a + m) :=
  h.mono fun _ _ ⟨he, m, hm⟩ => ⟨he, n + m, by rw [hm, World.drewN_drewN, Nat.add_assoc]⟩

theorem dn2 (w : World) (n m : Nat) : ∃ k, (w.drewN n).drewN m = w.drewN k := ⟨_, World.drewN_drewN _ _ _⟩

/-- What a call owns stays owned behind a call that only makes memory. -/
theorem ownsRow_below {w w' : World} {base : Nat} {e : TypeId} {size : Nat} {v : Value} {n : Nat} {xs : List Value} (h : w.ownsRow base e size v n xs) (k : Below w.heap.size w w') : w'.ownsRow base e size v n xs := by
  obtain ⟨h1, h2⟩ := h
  refine ⟨h1, ?_⟩
  rcases h2 with h2 | ⟨g, cap, cur, a, b, c, d⟩
  · exact .inl h2
  · refine .inr ⟨g, cap, cur, a, b, ?_, d⟩
    have hg : g < w.heap.size := by
      rcases Nat.lt_or_ge g w.heap.size with hlt | hge
      · exact hlt
      · rw [Array.getElem?_eq_none hge] at c; cases c
    rw [k.block g hg]; exact c

def inB (x a b : Int) : Bool := decide (a ≤ x ∧ x ≤ b)
def eqB (xs ys : List Int) : Bool := decide (xs.length = ys.length ∧ ∀ i, i < xs.length → nth xs i = nth ys i)
def riseB (zs : List Int) : Bool := decide (∀ i, i < zs.length - 1 → nth zs i < nth zs (i + 1))
def allB (zs : List Int) (a b : Int) : Bool := decide (∀ i, i < zs.length → inB (nth zs i) a b = true)

theorem bel1 {w : World} (o : Obj) : Below w.heap.size w (w.alloc o) := (Below.refl _ _).alloc (Nat.le_refl _) o
theorem bel1d {w : World} (o : Obj) (n : Nat) : Below w.heap.size w ((w.alloc o).drewN n) := (bel1 o).trans ⟨rfl, rfl, rfl, Nat.le_refl _, fun _ _ => rfl⟩
theorem bel2 {w : World} (o p : Obj) : Below w.heap.size w ((w.alloc o).alloc p) := (bel1 o).alloc (by simp) p
theorem bel2d {w : World} (o p : Obj) (n : Nat) : Below w.heap.size w (((w.alloc o).alloc p).drewN n) := (bel2 o p).trans ⟨rfl, rfl, rfl, Nat.le_refl _, fun _ _ => rfl⟩
theorem bel3 {w : World} (o p q : Obj) : Below w.heap.size w (((w.alloc o).alloc p).alloc q) := (bel2 o p).alloc (by simp; omega) q
theorem bel0d' {B : Nat} {w : World} (n : Nat) : Below B w (w.drewN n) := ⟨rfl, rfl, rfl, Nat.le_refl _, fun _ _ => rfl⟩
theorem bel0d {w : World} (n : Nat) : Below w.heap.size w (w.drewN n) := ⟨rfl, rfl, rfl, Nat.le_refl _, fun _ _ => rfl⟩
theorem bcell {W w1 : World} (hb : Below W.heap.size W w1) : (∀ b o, b < W.heap.size → w1.cell? ⟨b, o, none⟩ = W.cell? ⟨b, o, none⟩) ∧ (∀ b o, b < W.heap.size → w1.frozen? ⟨b, o, none⟩ = W.frozen? ⟨b, o, none⟩) :=
  ⟨fun b o h => hb.cell (p := ⟨b, o, none⟩) h, fun b o h => hb.frozen (p := ⟨b, o, none⟩) h⟩

/-- The test of a side of a table. -/
def axisB (xs : List Int) (b : Int) : Bool := inB xs.length 2 20 && riseB xs && allB xs (-b) b

/-- The tests of a curve. -/
def curveB (xs ys : List Int) : Bool := inB xs.length 2 20 && ((xs.length : Int) == (ys.length : Int)) && riseB xs && allB xs (-100000) 100000 && allB ys (-100000) 100000

theorem curveB_axis (xs ys : List Int) : curveB xs ys = (((xs.length : Int) == (ys.length : Int)) && axisB xs 100000 && allB ys (-100000) 100000) := by
  unfold curveB axisB; generalize inB _ _ _ = a; generalize riseB _ = c; generalize allB xs _ _ = d; generalize allB ys _ _ = e; generalize ((xs.length : Int) == (ys.length : Int)) = b
  cases a <;> cases b <;> cases c <;> cases d <;> cases e <;> rfl

theorem two (a b : Bool) : (a = false ∧ (a && b) = false) ∨ (a = true ∧ b = false ∧ (a && b) = false) ∨ (a = true ∧ b = true ∧ (a && b) = true) := by
  cases a <;> cases b <;> simp
theorem three (a b c : Bool) : (a = false ∧ (a && b && c) = false) ∨ (a = true ∧ b = false ∧ (a && b && c) = false) ∨ (a = true ∧ b = true ∧ c = false ∧ (a && b && c) = false) ∨ (a = true ∧ b = true ∧ c = true ∧ (a && b && c) = true) := by
  cases a <;> cases b <;> cases c <;> simp
theorem four (a b c d : Bool) : (a = false ∧ (a && b && c && d) = false) ∨ (a = true ∧ b = false ∧ (a && b && c && d) = false) ∨ (a = true ∧ b = true ∧ c = false ∧ (a && b && c && d) = false) ∨ (a = true ∧ b = true ∧ c = true ∧ d = false ∧ (a && b && c && d) = false) ∨ (a = true ∧ b = true ∧ c = true ∧ d = true ∧ (a && b && c && d) = true) := by
  cases a <;> cases b <;> cases c <;> cases d <;> simp
theorem five (a b c d e : Bool) : (a = false ∧ (a && b && c && d && e) = false) ∨ (a = true ∧ b = false ∧ (a && b && c && d && e) = false) ∨ (a = true ∧ b = true ∧ c = false ∧ (a && b && c && d && e) = false) ∨ (a = true ∧ b = true ∧ c = true ∧ d = false ∧ (a && b && c && d && e) = false) ∨ (a = true ∧ b = true ∧ c = true ∧ d = true ∧ e = false ∧ (a && b && c && d && e) = false) ∨ (a = true ∧ b = true ∧ c = true ∧ d = true ∧ e = true ∧ (a && b && c && d && e) = true) := by
  cases a <;> cases b <;> cases c <;> cases d <;> cases e <;> simp
theorem six (a b c d e f : Bool) : (a = false ∧ (a && b && c && d && e && f) = false) ∨ (a = true ∧ b = false ∧ (a && b && c && d && e && f) = false) ∨ (a = true ∧ b = true ∧ c = false ∧ (a && b && c && d && e && f) = false) ∨ (a = true ∧ b = true ∧ c = true ∧ d = false ∧ (a && b && c && d && e && f) = false) ∨ (a = true ∧ b = true ∧ c = true ∧ d = true ∧ e = false ∧ (a && b && c && d && e && f) = false) ∨ (a = true ∧ b = true ∧ c = true ∧ d = true ∧ e = true ∧ f = false ∧ (a && b && c && d && e && f) = false) ∨ (a = true ∧ b = true ∧ c = true ∧ d = true ∧ e = true ∧ f = true ∧ (a && b && c && d && e && f) = true) := by
  cases a <;> cases b <;> cases c <;> cases d <;> cases e <;> cases f <;> simp
theorem seven (a b c d e f g : Bool) : (a = false ∧ (a && b && c && d && e && f && g) = false) ∨ (a = true ∧ b = false ∧ (a && b && c && d && e && f && g) = false) ∨ (a = true ∧ b = true ∧ c = false ∧ (a && b && c && d && e && f && g) = false) ∨ (a = true ∧ b = true ∧ c = true ∧ d = false ∧ (a && b && c && d && e && f && g) = false) ∨ (a = true ∧ b = true ∧ c = true ∧ d = true ∧ e = false ∧ (a && b && c && d && e && f && g) = false) ∨ (a = true ∧ b = true ∧ c = true ∧ d = true ∧ e = true ∧ f = false ∧ (a && b && c && d && e && f && g) = false) ∨ (a = true ∧ b = true ∧ c = true ∧ d = true ∧ e = true ∧ f = true ∧ g = false ∧ (a && b && c && d && e && f && g) = false) ∨ (a = true ∧ b = true ∧ c = true ∧ d = true ∧ e = true ∧ f = true ∧ g = true ∧ (a && b && c && d && e && f && g) = true) := by
  cases a <;> cases b <;> cases c <;> cases d <;> cases e <;> cases f <;> cases g <;> simp

end Go.Proofs.Ytomcbbpaajpeiaa
