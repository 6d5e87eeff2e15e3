/-
  What the seat's walks share: a slice of whole numbers read as a list (its length and its cells), and small pure functions on lists. No condition.
  A slice of pairs of whole numbers read as a list of pairs. No condition.
  A slice of pairs of whole numbers that a call has made: it owns its memory, from a block on. No condition.
-/
import Derived.WalkKit
import Derived.ProofKit
import Derived.OpenShut
import Derived.ShutString
import Derived.ChangeOld
import Derived.Below
import Derived.WalkSmall
import Derived.Deep.QuietTactic
import Derived.BigQuiet
import Derived.Deep.RegionWith
import Derived.Deep.RegionHeld3
import Derived.Laws.AppendOwn

namespace Go.Proofs.YtemodlgmjgdjpaaGreatDoor
open Go.RowKit

theorem ret_int {k : IntKind} {a b : Int} (h : a = b) : Ending.returned (.int k a) = .returned (.int k b) := by rw [h]
theorem ret_bool {a b : Bool} (h : a = b) : Ending.returned (.bool a) = .returned (.bool b) := by rw [h]

/-- The number at a place of a list; 0 where there is none. -/
def nth (zs : List Int) (i : Nat) : Int := zs[i]?.getD 0

/-- A slice of whole numbers at address a, of length len, reads as zs. -/
structure Row (w : World) (a : Option Addr) (len : Nat) (zs : List Int) : Prop where
  len_eq : zs.length = len
  small : len ≤ 9223372036854775807
  cells : ∀ i, i < len → ∃ b off, a = some ⟨b, off, none⟩ ∧ w.cell? ⟨b, off + i, none⟩ = some (.int .i64 (nth zs i))
  fit : ∀ i : Nat, -9223372036854775808 ≤ nth zs i ∧ nth zs i ≤ 9223372036854775807

theorem Row.open_ {w : World} {a : Option Addr} {len : Nat} {zs : List Int} (h : Row w a len zs) :
    (len = 0 ∧ zs = []) ∨ ∃ b off, a = some ⟨b, off, none⟩ ∧ 0 < len ∧ ∀ i, i < len → w.cell? ⟨b, off + i, none⟩ = some (.int .i64 (nth zs i)) := by
  by_cases h0 : len = 0
  · exact .inl ⟨h0, List.length_eq_zero_iff.1 (by rw [h.len_eq, h0])⟩
  · obtain ⟨b, off, ha, _⟩ := h.cells 0 (by omega)
    refine .inr ⟨b, off, ha, by omega, fun i hi => ?_⟩
    obtain ⟨b', off', ha', hc⟩ := h.cells i hi
    rw [ha] at ha'
    simp only [Option.some.injEq, Addr.mk.injEq] at ha'
    obtain ⟨rfl, rfl, _⟩ := ha'
    exact hc

theorem Row.of_cells {w w' : World} {a : Option Addr} {len : Nat} {zs : List Int} (h : Row w a len zs) (k : ∀ p : Addr, p.block < w.heap.size → w'.cell? p = w.cell? p) : Row w' a len zs := by
  refine ⟨h.len_eq, h.small, fun i hi => ?_, h.fit⟩
  obtain ⟨b, off, ha, hc⟩ := h.cells i hi
  refine ⟨b, off, ha, ?_⟩
  rw [k _ (block_lt_of_cell hc)]
  exact hc

theorem Row.below {w w' : World} {a : Option Addr} {len : Nat} {zs : List Int} (h : Row w a len zs) (k : Below w.heap.size w w') : Row w' a len zs :=
  h.of_cells fun _ hp => k.cell hp

theorem Row.alloc {w : World} {a : Option Addr} {len : Nat} {zs : List Int} (h : Row w a len zs) (o : Obj) : Row (w.alloc o) a len zs :=
  h.below ((Below.refl _ _).alloc (Nat.le_refl _) o)

theorem Row.setCell {w : World} {g : Nat} {len : Nat} {zs : List Int} (h : Row w (some ⟨g, 0, none⟩) len zs) {p : Addr} (hp : p.block ≠ g) (v : Value) : Row (w.setCell p v) (some ⟨g, 0, none⟩) len zs := by
  refine ⟨h.len_eq, h.small, fun i hi => ?_, h.fit⟩
  obtain ⟨b, off, ha, hc⟩ := h.cells i hi
  simp only [Option.some.injEq, Addr.mk.injEq, and_true] at ha
  obtain ⟨rfl, rfl⟩ := ha
  refine ⟨_, _, rfl, ?_⟩
  exact (World.cell?_setCell_other w _ _ _ (by intro e; rw [e] at hp; exact hp rfl)).trans hc

theorem Row.drewN {w : World} {a : Option Addr} {len : Nat} {zs : List Int} (h : Row w a len zs) (n : Nat) : Row (w.drewN n) a len zs :=
  h.of_cells fun _ _ => rfl

theorem hide {p : Prop} (h : p) : Hid p := h
theorem unhide {p : Prop} (h : Hid p) : p := h

theorem quietSame {P : Program} {f : FuncId} {args : Array Value} {X : World} {a n : Nat} {v : Value}
    (h : Calls P f args (X.drewN (a + n)) fun e w' => e = .returned v ∧ w' = X.drewN (a + n)) : Calls P f args (X.drewN (a + n)) fun e w'' => e = .returned v ∧ ∃ m, w'' = X.drewN (a + m) :=
  h.mono fun _ _ ⟨he, hm⟩ => ⟨he, n, hm⟩
theorem quietMore {P : Program} {f : FuncId} {args : Array Value} {X : World} {a n : Nat} {v : Value}
    (h : Calls P f args (X.drewN (a + n)) fun e w' => e = .returned v ∧ ∃ m, w' = (X.drewN (a + n)).drewN m) : Calls P f args (X.drewN (a + n)) fun e w'' => e = .returned v ∧ ∃ m, w'' = X.drewN (a + m) :=
  h.mono fun _ _ ⟨he, m, hm⟩ => ⟨he, n + m, by rw [hm, World.drewN_drewN, Nat.add_assoc]⟩

theorem dn2 (w : World) (n m : Nat) : ∃ k, (w.drewN n).drewN m = w.drewN k := ⟨_, World.drewN_drewN _ _ _⟩

/-- What a call owns stays owned behind a call that only makes memory. -/
theorem ownsRow_below {w w' : World} {base : Nat} {e : TypeId} {size : Nat} {v : Value} {n : Nat} {xs : List Value} (h : w.ownsRow base e size v n xs) (k : Below w.heap.size w w') : w'.ownsRow base e size v n xs := by
  obtain ⟨h1, h2⟩ := h
  refine ⟨h1, ?_⟩
  rcases h2 with h2 | ⟨g, cap, cur, a, b, c, d⟩
  · exact .inl h2
  · refine .inr ⟨g, cap, cur, a, b, ?_, d⟩
    have hg : g < w.heap.size := by
      rcases Nat.lt_or_ge g w.heap.size with hlt | hge
      · exact hlt
      · rw [Array.getElem?_eq_none hge] at c; cases c
    rw [k.block g hg]; exact c

def inB (x a b : Int) : Bool := decide (a ≤ x ∧ x ≤ b)
def eqB (xs ys : List Int) : Bool := decide (xs.length = ys.length ∧ ∀ i, i < xs.length → nth xs i = nth ys i)
def riseB (zs : List Int) : Bool := decide (∀ i, i < zs.length - 1 → nth zs i < nth zs (i + 1))
def allB (zs : List Int) (a b : Int) : Bool := decide (∀ i, i < zs.length → inB (nth zs i) a b = true)

theorem bel1 {w : World} (o : Obj) : Below w.heap.size w (w.alloc o) := (Below.refl _ _).alloc (Nat.le_refl _) o
theorem bel1d {w : World} (o : Obj) (n : Nat) : Below w.heap.size w ((w.alloc o).drewN n) := (bel1 o).trans ⟨rfl, rfl, rfl, Nat.le_refl _, fun _ _ => rfl⟩
theorem bel2 {w : World} (o p : Obj) : Below w.heap.size w ((w.alloc o).alloc p) := (bel1 o).alloc (by simp) p
theorem bel2d {w : World} (o p : Obj) (n : Nat) : Below w.heap.size w (((w.alloc o).alloc p).drewN n) := (bel2 o p).trans ⟨rfl, rfl, rfl, Nat.le_refl _, fun _ _ => rfl⟩
theorem bel3 {w : World} (o p q : Obj) : Below w.heap.size w (((w.alloc o).alloc p).alloc q) := (bel2 o p).alloc (by simp; omega) q
theorem bel0d' {B : Nat} {w : World} (n : Nat) : Below B w (w.drewN n) := ⟨rfl, rfl, rfl, Nat.le_refl _, fun _ _ => rfl⟩
theorem bel0d {w : World} (n : Nat) : Below w.heap.size w (w.drewN n) := ⟨rfl, rfl, rfl, Nat.le_refl _, fun _ _ => rfl⟩
theorem bcell {W w1 : World} (hb : Below W.heap.size W w1) : (∀ b o, b < W.heap.size → w1.cell? ⟨b, o, none⟩ = W.cell? ⟨b, o, none⟩) ∧ (∀ b o, b < W.heap.size → w1.frozen? ⟨b, o, none⟩ = W.frozen? ⟨b, o, none⟩) :=
  ⟨fun b o h => hb.cell (p := ⟨b, o, none⟩) h, fun b o h => hb.frozen (p := ⟨b, o, none⟩) h⟩

/-- The test of a side of a table. -/
def axisB (xs : List Int) (b : Int) : Bool := inB xs.length 2 20 && riseB xs && allB xs (-b) b

/-- The tests of a curve. -/
def curveB (xs ys : List Int) : Bool := inB xs.length 2 20 && ((xs.length : Int) == (ys.length : Int)) && riseB xs && allB xs (-100000) 100000 && allB ys (-100000) 100000

theorem curveB_axis (xs ys : List Int) : curveB xs ys = (((xs.length : Int) == (ys.length : Int)) && axisB xs 100000 && allB ys (-100000) 100000) := by
  unfold curveB axisB; generalize inB _ _ _ = a; generalize riseB _ = c; generalize allB xs _ _ = d; generalize allB ys _ _ = e; generalize ((xs.length : Int) == (ys.length : Int)) = b
  cases a <;> cases b <;> cases c <;> cases d <;> cases e <;> rfl

theorem two (a b : Bool) : (a = false ∧ (a && b) = false) ∨ (a = true ∧ b = false ∧ (a && b) = false) ∨ (a = true ∧ b = true ∧ (a && b) = true) := by
  cases a <;> cases b <;> simp
theorem three (a b c : Bool) : (a = false ∧ (a && b && c) = false) ∨ (a = true ∧ b = false ∧ (a && b && c) = false) ∨ (a = true ∧ b = true ∧ c = false ∧ (a && b && c) = false) ∨ (a = true ∧ b = true ∧ c = true ∧ (a && b && c) = true) := by
  cases a <;> cases b <;> cases c <;> simp
theorem four (a b c d : Bool) : (a = false ∧ (a && b && c && d) = false) ∨ (a = true ∧ b = false ∧ (a && b && c && d) = false) ∨ (a = true ∧ b = true ∧ c = false ∧ (a && b && c && d) = false) ∨ (a = true ∧ b = true ∧ c = true ∧ d = false ∧ (a && b && c && d) = false) ∨ (a = true ∧ b = true ∧ c = true ∧ d = true ∧ (a && b && c && d) = true) := by
  cases a <;> cases b <;> cases c <;> cases d <;> simp
theorem five (a b c d e : Bool) : (a = false ∧ (a && b && c && d && e) = false) ∨ (a = true ∧ b = false ∧ (a && b && c && d && e) = false) ∨ (a = true ∧ b = true ∧ c = false ∧ (a && b && c && d && e) = false) ∨ (a = true ∧ b = true ∧ c = true ∧ d = false ∧ (a && b && c && d && e) = false) ∨ (a = true ∧ b = true ∧ c = true ∧ d = true ∧ e = false ∧ (a && b && c && d && e) = false) ∨ (a = true ∧ b = true ∧ c = true ∧ d = true ∧ e = true ∧ (a && b && c && d && e) = true) := by
  cases a <;> cases b <;> cases c <;> cases d <;> cases e <;> simp
theorem six (a b c d e f : Bool) : (a = false ∧ (a && b && c && d && e && f) = false) ∨ (a = true ∧ b = false ∧ (a && b && c && d && e && f) = false) ∨ (a = true ∧ b = true ∧ c = false ∧ (a && b && c && d && e && f) = false) ∨ (a = true ∧ b = true ∧ c = true ∧ d = false ∧ (a && b && c && d && e && f) = false) ∨ (a = true ∧ b = true ∧ c = true ∧ d = true ∧ e = false ∧ (a && b && c && d && e && f) = false) ∨ (a = true ∧ b = true ∧ c = true ∧ d = true ∧ e = true ∧ f = false ∧ (a && b && c && d && e && f) = false) ∨ (a = true ∧ b = true ∧ c = true ∧ d = true ∧ e = true ∧ f = true ∧ (a && b && c && d && e && f) = true) := by
  cases a <;> cases b <;> cases c <;> cases d <;> cases e <;> cases f <;> simp
theorem seven (a b c d e f g : Bool) : (a = false ∧ (a && b && c && d && e && f && g) = false) ∨ (a = true ∧ b = false ∧ (a && b && c && d && e && f && g) = false) ∨ (a = true ∧ b = true ∧ c = false ∧ (a && b && c && d && e && f && g) = false) ∨ (a = true ∧ b = true ∧ c = true ∧ d = false ∧ (a && b && c && d && e && f && g) = false) ∨ (a = true ∧ b = true ∧ c = true ∧ d = true ∧ e = false ∧ (a && b && c && d && e && f && g) = false) ∨ (a = true ∧ b = true ∧ c = true ∧ d = true ∧ e = true ∧ f = false ∧ (a && b && c && d && e && f && g) = false) ∨ (a = true ∧ b = true ∧ c = true ∧ d = true ∧ e = true ∧ f = true ∧ g = false ∧ (a && b && c && d && e && f && g) = false) ∨ (a = true ∧ b = true ∧ c = true ∧ d = true ∧ e = true ∧ f = true ∧ g = true ∧ (a && b && c && d && e && f && g) = true) := by
  cases a <;> cases b <;> cases c <;> cases d <;> cases e <;> cases f <;> cases g <;> simp

end Go.Proofs.YtemodlgmjgdjpaaGreatDoor

namespace Go.Proofs.YtemodlgmjgdjpaaGreatDoor
open Go.RowKit

/-- The numbers at a place of a list of pairs; 0 where there is none. -/
def fstAt (ps : List (Int × Int)) (i : Nat) : Int := (ps[i]?.getD (0, 0)).1
def sndAt (ps : List (Int × Int)) (i : Nat) : Int := (ps[i]?.getD (0, 0)).2

structure Row2 (w : World) (a : Option Addr) (len : Nat) (ps : List (Int × Int)) : Prop where
  len_eq : ps.length = len
  small : len ≤ 9223372036854775807
  cells : ∀ i, i < len → ∃ b off, a = some ⟨b, off, none⟩ ∧ w.cell? ⟨b, off + i * 2, none⟩ = some (.int .i64 (fstAt ps i)) ∧ w.cell? ⟨b, off + i * 2 + 1, none⟩ = some (.int .i64 (sndAt ps i))
  fit : ∀ i : Nat, (-9223372036854775808 ≤ fstAt ps i ∧ fstAt ps i ≤ 9223372036854775807) ∧ (-9223372036854775808 ≤ sndAt ps i ∧ sndAt ps i ≤ 9223372036854775807)

theorem Row2.open_ {w : World} {a : Option Addr} {len : Nat} {ps : List (Int × Int)} (h : Row2 w a len ps) :
    (len = 0 ∧ ps = []) ∨ ∃ b off, a = some ⟨b, off, none⟩ ∧ 0 < len ∧ ∀ i, i < len → w.cell? ⟨b, off + i * 2, none⟩ = some (.int .i64 (fstAt ps i)) ∧ w.cell? ⟨b, off + i * 2 + 1, none⟩ = some (.int .i64 (sndAt ps i)) := by
  by_cases h0 : len = 0
  · exact .inl ⟨h0, List.length_eq_zero_iff.1 (by rw [h.len_eq, h0])⟩
  · obtain ⟨b, off, ha, _⟩ := h.cells 0 (by omega)
    refine .inr ⟨b, off, ha, by omega, fun i hi => ?_⟩
    obtain ⟨b', off', ha', hc⟩ := h.cells i hi
    rw [ha] at ha'
    simp only [Option.some.injEq, Addr.mk.injEq] at ha'
    obtain ⟨rfl, rfl, _⟩ := ha'
    exact hc

theorem Row2.below {w w' : World} {a : Option Addr} {len : Nat} {ps : List (Int × Int)} (h : Row2 w a len ps) (k : Below w.heap.size w w') : Row2 w' a len ps := by
  refine ⟨h.len_eq, h.small, fun i hi => ?_, h.fit⟩
  obtain ⟨b, off, ha, hc, hd⟩ := h.cells i hi
  exact ⟨b, off, ha, (k.cell (block_lt_of_cell hc)).trans hc, (k.cell (block_lt_of_cell hd)).trans hd⟩
theorem Row2.alloc {w : World} {a : Option Addr} {len : Nat} {ps : List (Int × Int)} (h : Row2 w a len ps) (o : Obj) : Row2 (w.alloc o) a len ps := h.below (bel1 o)
theorem Row2.drewN {w : World} {a : Option Addr} {len : Nat} {ps : List (Int × Int)} (h : Row2 w a len ps) (n : Nat) : Row2 (w.drewN n) a len ps := h.below (bel0d n)
theorem Row2.setCell {w : World} {g : Nat} {len : Nat} {ps : List (Int × Int)} (h : Row2 w (some ⟨g, 0, none⟩) len ps) {p : Addr} (hp : p.block ≠ g) (v : Value) : Row2 (w.setCell p v) (some ⟨g, 0, none⟩) len ps := by
  refine ⟨h.len_eq, h.small, fun i hi => ?_, h.fit⟩
  obtain ⟨b, off, ha, hc, hd⟩ := h.cells i hi
  simp only [Option.some.injEq, Addr.mk.injEq, and_true] at ha
  obtain ⟨rfl, rfl⟩ := ha
  exact ⟨_, _, rfl, (World.cell?_setCell_other w _ _ _ (by intro e; rw [e] at hp; exact hp rfl)).trans hc, (World.cell?_setCell_other w _ _ _ (by intro e; rw [e] at hp; exact hp rfl)).trans hd⟩

end Go.Proofs.YtemodlgmjgdjpaaGreatDoor

namespace Go.Proofs.YtemodlgmjgdjpaaGreatDoor
open Go.RowKit

def Fit2 (ps : List (Int × Int)) : Prop := ∀ i : Nat, (-9223372036854775808 ≤ fstAt ps i ∧ fstAt ps i ≤ 9223372036854775807) ∧ (-9223372036854775808 ≤ sndAt ps i ∧ sndAt ps i ≤ 9223372036854775807)

structure Own2 (w : World) (base : Nat) (T : TypeId) (v : Value) (ps : List (Int × Int)) : Prop where
  own : ∃ xs : List Value, w.ownsRow base T 2 v ps.length xs ∧ ∀ j, j < ps.length → xs[j * 2]? = some (.int .i64 (fstAt ps j)) ∧ xs[j * 2 + 1]? = some (.int .i64 (sndAt ps j))
  fit : Fit2 ps

/-- What such a value looks like. -/
theorem Own2.form {w : World} {base : Nat} {T : TypeId} {v : Value} {ps : List (Int × Int)} (h : Own2 w base T v ps) :
    (v = .slice none 0 0 ∧ ps = []) ∨ ∃ g cap, v = .slice (some ⟨g, 0, none⟩) ps.length cap ∧ base ≤ g ∧ g < w.heap.size ∧ ps.length ≤ cap ∧ cap ≤ maxLen := by
  obtain ⟨xs, ho, _⟩ := h.own
  rcases ho.2 with ⟨hv, h0⟩ | ⟨g, cap, cur, hv, hb, hg, hc, hm, _⟩
  · exact .inl ⟨hv, List.length_eq_zero_iff.1 h0⟩
  · refine .inr ⟨g, cap, hv, hb, ?_, hc, hm⟩
    rcases Nat.lt_or_ge g w.heap.size with hlt | hge
    · exact hlt
    · rw [Array.getElem?_eq_none hge] at hg; cases hg

theorem Own2.slice {w : World} {base : Nat} {T : TypeId} {v : Value} {ps : List (Int × Int)} (h : Own2 w base T v ps) : ∃ a cap, v = .slice a ps.length cap ∧ ps.length ≤ cap ∧ Row2 w a ps.length ps := by
  have hf := h.fit
  obtain ⟨xs, ho, hx⟩ := h.own
  rcases h.form with ⟨rfl, h0⟩ | ⟨g, cap, rfl, _, _, hc, hm⟩
  · subst h0; exact ⟨none, 0, rfl, Nat.le_refl _, ⟨rfl, by simp, fun i hi => by simp at hi, hf⟩⟩
  · refine ⟨_, cap, rfl, hc, ⟨rfl, ?_, fun i hi => ⟨_, _, rfl, ?_, ?_⟩, hf⟩⟩
    · unfold maxLen at hm; omega
    · rw [Nat.zero_add, ho.cellAt (i * 2) (by omega)]; exact (hx i hi).1
    · rw [Nat.zero_add, ho.cellAt (i * 2 + 1) (by omega)]; exact (hx i hi).2

theorem Own2.row {w : World} {base : Nat} {T : TypeId} {a : Option Addr} {len cap : Nat} {ps : List (Int × Int)} (h : Own2 w base T (.slice a len cap) ps) : Row2 w a len ps := by
  obtain ⟨a', cap', e, _, hr⟩ := h.slice
  simp only [Value.slice.injEq] at e
  obtain ⟨rfl, rfl, rfl⟩ := e
  exact hr

theorem Own2.below {w w' : World} {base : Nat} {T : TypeId} {v : Value} {ps : List (Int × Int)} (h : Own2 w base T v ps) (k : Below w.heap.size w w') : Own2 w' base T v ps := by
  obtain ⟨xs, ho, hx⟩ := h.own
  exact ⟨⟨xs, ownsRow_below ho k, hx⟩, h.fit⟩
theorem Own2.drewN {w : World} {base : Nat} {T : TypeId} {v : Value} {ps : List (Int × Int)} (h : Own2 w base T v ps) (n : Nat) : Own2 (w.drewN n) base T v ps := h.below (bel0d n)
theorem Own2.mono {w : World} {base base' : Nat} {T : TypeId} {v : Value} {ps : List (Int × Int)} (h : Own2 w base T v ps) (hb : base' ≤ base) : Own2 w base' T v ps := by
  obtain ⟨xs, ⟨h1, h2⟩, hx⟩ := h.own
  refine ⟨⟨xs, ⟨h1, ?_⟩, hx⟩, h.fit⟩
  rcases h2 with h2 | ⟨g, cap, cur, a, b, c⟩
  · exact .inl h2
  · exact .inr ⟨g, cap, cur, a, by omega, c⟩

/-- Another block's turning leaves it. -/
theorem Own2.far {w w' : World} {base : Nat} {T : TypeId} {v : Value} {ps : List (Int × Int)} {row : Option Nat} (h : Own2 w base T v ps) (k : w.grownBy w' row) (hne : ∀ g, v.ownBlock = some g → some g ≠ row) : Own2 w' base T v ps := by
  obtain ⟨xs, ⟨h1, h2⟩, hx⟩ := h.own
  refine ⟨⟨xs, ⟨h1, ?_⟩, hx⟩, h.fit⟩
  rcases h2 with h2 | ⟨g, cap, cur, rfl, b, c, d⟩
  · exact .inl h2
  · refine .inr ⟨g, cap, cur, rfl, b, ?_, d⟩
    have hg : g < w.heap.size := by
      rcases Nat.lt_or_ge g w.heap.size with hlt | hge
      · exact hlt
      · rw [Array.getElem?_eq_none hge] at c; cases c
    rw [k.block g hg (hne g rfl)]; exact c
theorem Row2.far {w w' : World} {g off len : Nat} {ps : List (Int × Int)} {row : Option Nat} (h : Row2 w (some ⟨g, off, none⟩) len ps) (k : w.grownBy w' row) (hne : some g ≠ row) : Row2 w' (some ⟨g, off, none⟩) len ps := by
  refine ⟨h.len_eq, h.small, fun i hi => ?_, h.fit⟩
  obtain ⟨b, off', ha, hc, hd⟩ := h.cells i hi
  simp only [Option.some.injEq, Addr.mk.injEq, and_true] at ha
  obtain ⟨rfl, rfl⟩ := ha
  have hb := block_lt_of_cell hc
  have hk := k.block g hb hne
  exact ⟨_, _, rfl, (World.cell?_of_block (a := ⟨g, off + i * 2, none⟩) hk).trans hc, (World.cell?_of_block (a := ⟨g, off + i * 2 + 1, none⟩) hk).trans hd⟩

/-- One cell of it may be read and written. -/
theorem Own2.here {w : World} {base : Nat} {T : TypeId} {g cap : Nat} {ps : List (Int × Int)} (h : Own2 w base T (.slice (some ⟨g, 0, none⟩) ps.length cap) ps) (i : Nat) (hi : i < ps.length) :
    (w.cell? ⟨g, i * 2, none⟩ = some (.int .i64 (fstAt ps i)) ∧ w.cell? ⟨g, i * 2 + 1, none⟩ = some (.int .i64 (sndAt ps i))) ∧ w.frozen? ⟨g, i * 2, none⟩ = false ∧ w.frozen? ⟨g, i * 2 + 1, none⟩ = false := by
  obtain ⟨xs, ho, hx⟩ := h.own
  refine ⟨⟨?_, ?_⟩, ho.frozenAt _, ho.frozenAt _⟩
  · rw [ho.cellAt (i * 2) (by omega)]; exact (hx i hi).1
  · rw [ho.cellAt (i * 2 + 1) (by omega)]; exact (hx i hi).2

theorem fstAt_set (ps : List (Int × Int)) (i j : Nat) (a b : Int) (hi : i < ps.length) : fstAt (ps.set i (a, b)) j = if j = i then a else fstAt ps j := by
  unfold fstAt
  by_cases e : j = i
  · subst e; rw [List.getElem?_set_self hi]; simp
  · rw [List.getElem?_set_ne (by omega)]; simp [e]
theorem sndAt_set (ps : List (Int × Int)) (i j : Nat) (a b : Int) (hi : i < ps.length) : sndAt (ps.set i (a, b)) j = if j = i then b else sndAt ps j := by
  unfold sndAt
  by_cases e : j = i
  · subst e; rw [List.getElem?_set_self hi]; simp
  · rw [List.getElem?_set_ne (by omega)]; simp [e]

/-- A store into the first number of a pair. -/
theorem Own2.setFst {w : World} {base : Nat} {T : TypeId} {g cap : Nat} {ps : List (Int × Int)} (h : Own2 w base T (.slice (some ⟨g, 0, none⟩) ps.length cap) ps) (i : Nat) (hi : i < ps.length) (a : Int) (ha : -9223372036854775808 ≤ a ∧ a ≤ 9223372036854775807) :
    Own2 (w.setCell ⟨g, i * 2, none⟩ (.int .i64 a)) base T (.slice (some ⟨g, 0, none⟩) ps.length cap) (ps.set i (a, sndAt ps i)) := by
  have hf := h.fit
  obtain ⟨xs, ho, hx⟩ := h.own
  have hl := ho.1
  have o1 := (ho.stored (i * 2) (.int .i64 a)).1
  refine ⟨⟨_, by rw [List.length_set]; exact o1, fun j hj => ?_⟩, fun j => ?_⟩
  · rw [List.length_set] at hj
    rw [fstAt_set _ _ _ _ _ hi, sndAt_set _ _ _ _ _ hi]
    by_cases e : j = i
    · subst e
      rw [if_pos rfl, if_pos rfl]
      exact ⟨List.getElem?_set_self (by omega), by rw [List.getElem?_set_ne (by omega)]; exact (hx j hj).2⟩
    · rw [if_neg e, if_neg e]
      exact ⟨by rw [List.getElem?_set_ne (by omega)]; exact (hx j hj).1, by rw [List.getElem?_set_ne (by omega)]; exact (hx j hj).2⟩
  · rw [fstAt_set _ _ _ _ _ hi, sndAt_set _ _ _ _ _ hi]
    by_cases e : j = i
    · rw [if_pos e, if_pos e]; exact ⟨ha, (hf i).2⟩
    · rw [if_neg e, if_neg e]; exact hf j
/-- A store into the second. -/
theorem Own2.setSnd {w : World} {base : Nat} {T : TypeId} {g cap : Nat} {ps : List (Int × Int)} (h : Own2 w base T (.slice (some ⟨g, 0, none⟩) ps.length cap) ps) (i : Nat) (hi : i < ps.length) (a : Int) (ha : -9223372036854775808 ≤ a ∧ a ≤ 9223372036854775807) :
    Own2 (w.setCell ⟨g, i * 2 + 1, none⟩ (.int .i64 a)) base T (.slice (some ⟨g, 0, none⟩) ps.length cap) (ps.set i (fstAt ps i, a)) := by
  have hf := h.fit
  obtain ⟨xs, ho, hx⟩ := h.own
  have hl := ho.1
  have o1 := (ho.stored (i * 2 + 1) (.int .i64 a)).1
  refine ⟨⟨_, by rw [List.length_set]; exact o1, fun j hj => ?_⟩, fun j => ?_⟩
  · rw [List.length_set] at hj
    rw [fstAt_set _ _ _ _ _ hi, sndAt_set _ _ _ _ _ hi]
    by_cases e : j = i
    · subst e
      rw [if_pos rfl, if_pos rfl]
      exact ⟨by rw [List.getElem?_set_ne (by omega)]; exact (hx j hj).1, List.getElem?_set_self (by omega)⟩
    · rw [if_neg e, if_neg e]
      exact ⟨by rw [List.getElem?_set_ne (by omega)]; exact (hx j hj).1, by rw [List.getElem?_set_ne (by omega)]; exact (hx j hj).2⟩
  · rw [fstAt_set _ _ _ _ _ hi, sndAt_set _ _ _ _ _ hi]
    by_cases e : j = i
    · rw [if_pos e, if_pos e]; exact ⟨(hf i).1, ha⟩
    · rw [if_neg e, if_neg e]; exact hf j

/-- Nothing but one block is written, and no block made below. -/
theorem grown_set {w wr : World} {g : Nat} (h : w.grownBy wr (some g)) (o : Nat) (u : Value) : w.grownBy (wr.setCell ⟨g, o, none⟩ u) (some g) :=
  ⟨h.os, h.tape, h.output, by have := h.size; simpa [World.setCell] using this, fun k hk hne => (Below.heap_setCell _ _ _ _ (by intro e; subst e; exact hne rfl)).trans (h.block k hk hne)⟩
theorem grown_refl (w : World) (row : Option Nat) : w.grownBy w row := ⟨rfl, rfl, rfl, Nat.le_refl _, fun _ _ _ => rfl⟩
theorem grown_drewN {w wr : World} {row : Option Nat} (h : w.grownBy wr row) (n : Nat) : w.grownBy (wr.drewN n) row := ⟨h.os, h.tape, h.output, h.size, h.block⟩

end Go.Proofs.YtemodlgmjgdjpaaGreatDoor
