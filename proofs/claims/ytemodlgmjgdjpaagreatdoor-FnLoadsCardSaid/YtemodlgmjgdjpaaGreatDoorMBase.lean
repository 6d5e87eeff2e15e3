/-
  What the seat's walks share: a slice of whole numbers read as a list (its length and its cells), and small pure functions on lists. No condition.
  A variable in a block of its own: what its cells hold, that none is frozen, that the block is there. No condition.
  A region that draws its order, whose own operations only read and whose callees answer one plain value and make memory only: one walk, in the order of the text, serves every order. The class of worlds: those in which nothing that was there has turned. No condition.
  What the small functions on whole numbers and their lists answer (l1In, l1All, l1Rise of the model; within, allWithin, ascending of the program; szIntS, eqIntS, toIntS of the law): at every argument, with no memory written that was there.
  A whole struct or array that lies in a block of its own, loaded and stored in one step of a walk. No condition.
  A slice of pairs of whole numbers read as a list of pairs. No condition.
  A slice of pairs of whole numbers that a call has made: it owns its memory, from a block on. No condition.
-/
import Derived.WalkKit
import Derived.ProofKit
import Derived.OpenShut
import Derived.ShutString
import Derived.ChangeOld
import Derived.Below
import Derived.WalkSmall
import Derived.Deep.QuietTactic
import Derived.BigQuiet
import Derived.Deep.RegionWith
import Derived.Deep.RegionHeld3
import Derived.Deep.Quiet
import Derived.Test.YtemodlgmjgdjpaaGreatDoorChecked
import Derived.Laws.Cells
import Derived.Laws.IdiomCopy
import Derived.Laws.AppendOwn

namespace Go.Proofs.YtemodlgmjgdjpaaGreatDoor
open Go.RowKit

theorem ret_int {k : IntKind} {a b : Int} (h : a = b) : Ending.returned (.int k a) = .returned (.int k b) := by rw [h]
theorem ret_bool {a b : Bool} (h : a = b) : Ending.returned (.bool a) = .returned (.bool b) := by rw [h]

/-- The number at a place of a list; 0 where there is none. -/
def nth (zs : List Int) (i : Nat) : Int := zs[i]?.getD 0

/-- A slice of whole numbers at address a, of length len, reads as zs. -/
structure Row (w : World) (a : Option Addr) (len : Nat) (zs : List Int) : Prop where
  len_eq : zs.length = len
  small : len ≤ 9223372036854775807
  cells : ∀ i, i < len → ∃ b off, a = some ⟨b, off, none⟩ ∧ w.cell? ⟨b, off + i, none⟩ = some (.int .i64 (nth zs i))
  fit : ∀ i : Nat, -9223372036854775808 ≤ nth zs i ∧ nth zs i ≤ 9223372036854775807

theorem Row.open_ {w : World} {a : Option Addr} {len : Nat} {zs : List Int} (h : Row w a len zs) :
    (len = 0 ∧ zs = []) ∨ ∃ b off, a = some ⟨b, off, none⟩ ∧ 0 < len ∧ ∀ i, i < len → w.cell? ⟨b, off + i, none⟩ = some (.int .i64 (nth zs i)) := by
  by_cases h0 : len = 0
  · exact .inl ⟨h0, List.length_eq_zero_iff.1 (by rw [h.len_eq, h0])⟩
  · obtain ⟨b, off, ha, _⟩ := h.cells 0 (by omega)
    refine .inr ⟨b, off, ha, by omega, fun i hi => ?_⟩
    obtain ⟨b', off', ha', hc⟩ := h.cells i hi
    rw [ha] at ha'
    simp only [Option.some.injEq, Addr.mk.injEq] at ha'
    obtain ⟨rfl, rfl, _⟩ := ha'
    exact hc

theorem Row.of_cells {w w' : World} {a : Option Addr} {len : Nat} {zs : List Int} (h : Row w a len zs) (k : ∀ p : Addr, p.block < w.heap.size → w'.cell? p = w.cell? p) : Row w' a len zs := by
  refine ⟨h.len_eq, h.small, fun i hi => ?_, h.fit⟩
  obtain ⟨b, off, ha, hc⟩ := h.cells i hi
  refine ⟨b, off, ha, ?_⟩
  rw [k _ (block_lt_of_cell hc)]
  exact hc

theorem Row.below {w w' : World} {a : Option Addr} {len : Nat} {zs : List Int} (h : Row w a len zs) (k : Below w.heap.size w w') : Row w' a len zs :=
  h.of_cells fun _ hp => k.cell hp

theorem Row.alloc {w : World} {a : Option Addr} {len : Nat} {zs : List Int} (h : Row w a len zs) (o : Obj) : Row (w.alloc o) a len zs :=
  h.below ((Below.refl _ _).alloc (Nat.le_refl _) o)

theorem Row.setCell {w : World} {g : Nat} {len : Nat} {zs : List Int} (h : Row w (some ⟨g, 0, none⟩) len zs) {p : Addr} (hp : p.block ≠ g) (v : Value) : Row (w.setCell p v) (some ⟨g, 0, none⟩) len zs := by
  refine ⟨h.len_eq, h.small, fun i hi => ?_, h.fit⟩
  obtain ⟨b, off, ha, hc⟩ := h.cells i hi
  simp only [Option.some.injEq, Addr.mk.injEq, and_true] at ha
  obtain ⟨rfl, rfl⟩ := ha
  refine ⟨_, _, rfl, ?_⟩
  exact (World.cell?_setCell_other w _ _ _ (by intro e; rw [e] at hp; exact hp rfl)).trans hc

theorem Row.drewN {w : World} {a : Option Addr} {len : Nat} {zs : List Int} (h : Row w a len zs) (n : Nat) : Row (w.drewN n) a len zs :=
  h.of_cells fun _ _ => rfl

theorem hide {p : Prop} (h : p) : Hid p := h
theorem unhide {p : Prop} (h : Hid p) : p := h

theorem quietSame {P : Program} {f : FuncId} {args : Array Value} {X : World} {a n : Nat} {v : Value}
    (h : Calls P f args (X.drewN (a + n)) fun e w' => e = .returned v ∧ w' = X.drewN (a + n)) : Calls P f args (X.drewN (a + n)) fun e w'' => e = .returned v ∧ ∃ m, w'' = X.drewN (a + m) :=
  h.mono fun _ _ ⟨he, hm⟩ => ⟨he, n, hm⟩
theorem quietMore {P : Program} {f : FuncId} {args : Array Value} {X : World} {a n : Nat} {v : Value}
    (h : Calls P f args (X.drewN (a + n)) fun e w' => e = .returned v ∧ ∃ m, w' = (X.drewN (a + n)).drewN m) : Calls P f args (X.drewN (a + n)) fun e w'' => e = .returned v ∧ ∃ m, w'' = X.drewN (a + m) :=
  h.mono fun _ _ ⟨he, m, hm⟩ => ⟨he, n + m, by rw [hm, World.drewN_drewN, Nat.add_assoc]⟩

theorem dn2 (w : World) (n m : Nat) : ∃ k, (w.drewN n).drewN m = w.drewN k := ⟨_, World.drewN_drewN _ _ _⟩

/-- What a call owns stays owned behind a call that only makes memory. -/
theorem ownsRow_below {w w' : World} {base : Nat} {e : TypeId} {size : Nat} {v : Value} {n : Nat} {xs : List Value} (h : w.ownsRow base e size v n xs) (k : Below w.heap.size w w') : w'.ownsRow base e size v n xs := by
  obtain ⟨h1, h2⟩ := h
  refine ⟨h1, ?_⟩
  rcases h2 with h2 | ⟨g, cap, cur, a, b, c, d⟩
  · exact .inl h2
  · refine .inr ⟨g, cap, cur, a, b, ?_, d⟩
    have hg : g < w.heap.size := by
      rcases Nat.lt_or_ge g w.heap.size with hlt | hge
      · exact hlt
      · rw [Array.getElem?_eq_none hge] at c; cases c
    rw [k.block g hg]; exact c

def inB (x a b : Int) : Bool := decide (a ≤ x ∧ x ≤ b)
def eqB (xs ys : List Int) : Bool := decide (xs.length = ys.length ∧ ∀ i, i < xs.length → nth xs i = nth ys i)
def riseB (zs : List Int) : Bool := decide (∀ i, i < zs.length - 1 → nth zs i < nth zs (i + 1))
def allB (zs : List Int) (a b : Int) : Bool := decide (∀ i, i < zs.length → inB (nth zs i) a b = true)

theorem bel1 {w : World} (o : Obj) : Below w.heap.size w (w.alloc o) := (Below.refl _ _).alloc (Nat.le_refl _) o
theorem bel1d {w : World} (o : Obj) (n : Nat) : Below w.heap.size w ((w.alloc o).drewN n) := (bel1 o).trans ⟨rfl, rfl, rfl, Nat.le_refl _, fun _ _ => rfl⟩
theorem bel2 {w : World} (o p : Obj) : Below w.heap.size w ((w.alloc o).alloc p) := (bel1 o).alloc (by simp) p
theorem bel2d {w : World} (o p : Obj) (n : Nat) : Below w.heap.size w (((w.alloc o).alloc p).drewN n) := (bel2 o p).trans ⟨rfl, rfl, rfl, Nat.le_refl _, fun _ _ => rfl⟩
theorem bel3 {w : World} (o p q : Obj) : Below w.heap.size w (((w.alloc o).alloc p).alloc q) := (bel2 o p).alloc (by simp; omega) q
theorem bel0d' {B : Nat} {w : World} (n : Nat) : Below B w (w.drewN n) := ⟨rfl, rfl, rfl, Nat.le_refl _, fun _ _ => rfl⟩
theorem bel0d {w : World} (n : Nat) : Below w.heap.size w (w.drewN n) := ⟨rfl, rfl, rfl, Nat.le_refl _, fun _ _ => rfl⟩
theorem bcell {W w1 : World} (hb : Below W.heap.size W w1) : (∀ b o, b < W.heap.size → w1.cell? ⟨b, o, none⟩ = W.cell? ⟨b, o, none⟩) ∧ (∀ b o, b < W.heap.size → w1.frozen? ⟨b, o, none⟩ = W.frozen? ⟨b, o, none⟩) :=
  ⟨fun b o h => hb.cell (p := ⟨b, o, none⟩) h, fun b o h => hb.frozen (p := ⟨b, o, none⟩) h⟩

/-- The test of a side of a table. -/
def axisB (xs : List Int) (b : Int) : Bool := inB xs.length 2 20 && riseB xs && allB xs (-b) b

/-- The tests of a curve. -/
def curveB (xs ys : List Int) : Bool := inB xs.length 2 20 && ((xs.length : Int) == (ys.length : Int)) && riseB xs && allB xs (-100000) 100000 && allB ys (-100000) 100000

theorem curveB_axis (xs ys : List Int) : curveB xs ys = (((xs.length : Int) == (ys.length : Int)) && axisB xs 100000 && allB ys (-100000) 100000) := by
  unfold curveB axisB; generalize inB _ _ _ = a; generalize riseB _ = c; generalize allB xs _ _ = d; generalize allB ys _ _ = e; generalize ((xs.length : Int) == (ys.length : Int)) = b
  cases a <;> cases b <;> cases c <;> cases d <;> cases e <;> rfl

theorem two (a b : Bool) : (a = false ∧ (a && b) = false) ∨ (a = true ∧ b = false ∧ (a && b) = false) ∨ (a = true ∧ b = true ∧ (a && b) = true) := by
  cases a <;> cases b <;> simp
theorem three (a b c : Bool) : (a = false ∧ (a && b && c) = false) ∨ (a = true ∧ b = false ∧ (a && b && c) = false) ∨ (a = true ∧ b = true ∧ c = false ∧ (a && b && c) = false) ∨ (a = true ∧ b = true ∧ c = true ∧ (a && b && c) = true) := by
  cases a <;> cases b <;> cases c <;> simp
theorem four (a b c d : Bool) : (a = false ∧ (a && b && c && d) = false) ∨ (a = true ∧ b = false ∧ (a && b && c && d) = false) ∨ (a = true ∧ b = true ∧ c = false ∧ (a && b && c && d) = false) ∨ (a = true ∧ b = true ∧ c = true ∧ d = false ∧ (a && b && c && d) = false) ∨ (a = true ∧ b = true ∧ c = true ∧ d = true ∧ (a && b && c && d) = true) := by
  cases a <;> cases b <;> cases c <;> cases d <;> simp
theorem five (a b c d e : Bool) : (a = false ∧ (a && b && c && d && e) = false) ∨ (a = true ∧ b = false ∧ (a && b && c && d && e) = false) ∨ (a = true ∧ b = true ∧ c = false ∧ (a && b && c && d && e) = false) ∨ (a = true ∧ b = true ∧ c = true ∧ d = false ∧ (a && b && c && d && e) = false) ∨ (a = true ∧ b = true ∧ c = true ∧ d = true ∧ e = false ∧ (a && b && c && d && e) = false) ∨ (a = true ∧ b = true ∧ c = true ∧ d = true ∧ e = true ∧ (a && b && c && d && e) = true) := by
  cases a <;> cases b <;> cases c <;> cases d <;> cases e <;> simp
theorem six (a b c d e f : Bool) : (a = false ∧ (a && b && c && d && e && f) = false) ∨ (a = true ∧ b = false ∧ (a && b && c && d && e && f) = false) ∨ (a = true ∧ b = true ∧ c = false ∧ (a && b && c && d && e && f) = false) ∨ (a = true ∧ b = true ∧ c = true ∧ d = false ∧ (a && b && c && d && e && f) = false) ∨ (a = true ∧ b = true ∧ c = true ∧ d = true ∧ e = false ∧ (a && b && c && d && e && f) = false) ∨ (a = true ∧ b = true ∧ c = true ∧ d = true ∧ e = true ∧ f = false ∧ (a && b && c && d && e && f) = false) ∨ (a = true ∧ b = true ∧ c = true ∧ d = true ∧ e = true ∧ f = true ∧ (a && b && c && d && e && f) = true) := by
  cases a <;> cases b <;> cases c <;> cases d <;> cases e <;> cases f <;> simp
theorem seven (a b c d e f g : Bool) : (a = false ∧ (a && b && c && d && e && f && g) = false) ∨ (a = true ∧ b = false ∧ (a && b && c && d && e && f && g) = false) ∨ (a = true ∧ b = true ∧ c = false ∧ (a && b && c && d && e && f && g) = false) ∨ (a = true ∧ b = true ∧ c = true ∧ d = false ∧ (a && b && c && d && e && f && g) = false) ∨ (a = true ∧ b = true ∧ c = true ∧ d = true ∧ e = false ∧ (a && b && c && d && e && f && g) = false) ∨ (a = true ∧ b = true ∧ c = true ∧ d = true ∧ e = true ∧ f = false ∧ (a && b && c && d && e && f && g) = false) ∨ (a = true ∧ b = true ∧ c = true ∧ d = true ∧ e = true ∧ f = true ∧ g = false ∧ (a && b && c && d && e && f && g) = false) ∨ (a = true ∧ b = true ∧ c = true ∧ d = true ∧ e = true ∧ f = true ∧ g = true ∧ (a && b && c && d && e && f && g) = true) := by
  cases a <;> cases b <;> cases c <;> cases d <;> cases e <;> cases f <;> cases g <;> simp

end Go.Proofs.YtemodlgmjgdjpaaGreatDoor

namespace Go.Proofs.YtemodlgmjgdjpaaGreatDoor
open Go.RowKit

structure Blk (w : World) (B : Nat) (vs : List Value) : Prop where
  c : ∀ i (h : i < vs.length), w.cell? ⟨B, i, none⟩ = some vs[i]
  f : ∀ i, i < vs.length → w.frozen? ⟨B, i, none⟩ = false
  lt : B < w.heap.size
theorem Blk.below {w w' : World} {B : Nat} {vs : List Value} (h : Blk w B vs) (k : Below w.heap.size w w') : Blk w' B vs :=
  ⟨fun i hi => (k.cell (p := ⟨B, i, none⟩) h.lt).trans (h.c i hi), fun i hi => (k.frozen (p := ⟨B, i, none⟩) h.lt).trans (h.f i hi), Nat.lt_of_lt_of_le h.lt k.size⟩
theorem Blk.drewN {w : World} {B : Nat} {vs : List Value} (h : Blk w B vs) (n : Nat) : Blk (w.drewN n) B vs := h.below (bel0d n)
theorem Blk.alloc {w : World} {B : Nat} {vs : List Value} (h : Blk w B vs) (o : Obj) : Blk (w.alloc o) B vs := h.below (bel1 o)
theorem Blk.new {w : World} (vs : List Value) (T : TypeId) : Blk (w.alloc (Obj.cells vs.toArray T)) w.heap.size vs :=
  ⟨fun i hi => by simp [go_sem, hi], fun i _ => by simp [go_sem], by simp⟩
theorem Blk.other {w : World} {B : Nat} {vs : List Value} (h : Blk w B vs) {p : Addr} (hp : p.block ≠ B) (v : Value) : Blk (w.setCell p v) B vs :=
  ⟨fun i hi => (World.cell?_setCell_other w _ _ _ (by intro e; rw [e] at hp; exact hp rfl)).trans (h.c i hi), fun i hi => by simp [h.f i hi], by simpa [World.setCell] using h.lt⟩
theorem Blk.set {w : World} {B : Nat} {vs : List Value} (h : Blk w B vs) (i : Nat) (hi : i < vs.length) (v : Value) : Blk (w.setCell ⟨B, i, none⟩ v) B (vs.set i v) := by
  refine ⟨fun j hj => ?_, fun j hj => by simpa using h.f j (by simpa using hj), by simpa [World.setCell] using h.lt⟩
  have hj' : j < vs.length := by simpa using hj
  by_cases e : i = j
  · subst e
    rw [List.getElem_set_self]
    exact World.cell?_setCell_same _ _ _ (h.c i hi)
  · rw [List.getElem_set_ne e]
    exact (World.cell?_setCell_other w _ _ _ (by intro k; simp only [Addr.mk.injEq] at k; omega)).trans (h.c j hj')

end Go.Proofs.YtemodlgmjgdjpaaGreatDoor

namespace Go.Proofs.YtemodlgmjgdjpaaGreatDoor
open Go.RowKit

/-- The worlds in which nothing that was there in w has turned, as the values of a function. -/
theorem belClass (w : World) : ∃ (ι : Type) (f : ι → World), Nonempty ι ∧ (∀ x, Below w.heap.size w (f x)) ∧ (∀ w', Below w.heap.size w w' → ∃ x, w' = f x) :=
  ⟨{w' // Below w.heap.size w w'}, Subtype.val, ⟨⟨w, Below.refl _ _⟩⟩, fun x => x.2, fun w' h => ⟨⟨w', h⟩, rfl⟩⟩

theorem wp_region_bel {P : Program} {id : Nat} {Q : Exit → Act → World → Prop} {a : Act} {w : World} {l : List Oper} {ι : Type} {f : ι → World} (hall : ∀ w', Below w.heap.size w w' → ∃ x, w' = f x)
    (hm : P.follows .mixedOrders = true) (hB : Region.lexB .any l.toArray = true)
    (h : wpQuiet P l.toArray (fun w' => ∃ x, w' = f x) (fun a' => ∀ w', (∃ x, w' = f x) → Q .normal a' w') l a) : (Code.region id l.toArray true).wp P Q a w :=
  wp_region_quiet (C := fun w' => ∃ x, w' = f x) hm hB (hall _ ⟨rfl, rfl, rfl, Nat.le_refl _, fun _ _ => rfl⟩) (by simpa using h)

/-- A callee's contract in such a walk. -/
theorem belQ {P : Program} {F : FuncId} {args : Array Value} {w : World} {ι : Type} {f : ι → World} (hb : ∀ x, Below w.heap.size w (f x)) (hall : ∀ w', Below w.heap.size w w' → ∃ x, w' = f x) {x : ι} {v : Value}
    (h : Calls P F args (f x) fun e w' => e = .returned v ∧ Below (f x).heap.size (f x) w') : Calls P F args (f x) fun e w'' => e = .returned v ∧ ∃ y, w'' = f y :=
  h.mono fun _ _ ⟨he, k⟩ => ⟨he, hall _ ((hb x).trans (k.mono (hb x).size))⟩
theorem belS {P : Program} {F : FuncId} {args : Array Value} {ι : Type} {f : ι → World} {x : ι} {v : Value}
    (h : Calls P F args (f x) fun e w' => e = .returned v ∧ w' = f x) : Calls P F args (f x) fun e w'' => e = .returned v ∧ ∃ y, w'' = f y :=
  h.mono fun _ _ ⟨he, k⟩ => ⟨he, x, k⟩
theorem belN {P : Program} {F : FuncId} {args : Array Value} {w : World} {ι : Type} {f : ι → World} (hb : ∀ x, Below w.heap.size w (f x)) (hall : ∀ w', Below w.heap.size w w' → ∃ x, w' = f x) {x : ι} {v : Value}
    (h : Calls P F args (f x) fun e w' => e = .returned v ∧ ∃ n, w' = (f x).drewN n) : Calls P F args (f x) fun e w'' => e = .returned v ∧ ∃ y, w'' = f y :=
  h.mono fun _ _ ⟨he, n, k⟩ => ⟨he, hall _ (by rw [k]; exact (hb x).trans (bel0d' n))⟩

end Go.Proofs.YtemodlgmjgdjpaaGreatDoor

namespace Go.Proofs.YtemodlgmjgdjpaaGreatDoor
open Go.RowKit

set_option maxHeartbeats 400000 in
theorem l1In_any (x a b : Int) (w : World) :
    Calls Tryz.prog 60 #[.int .i64 x, .int .i64 a, .int .i64 b] w fun e w' => e = .returned (.bool (inB x a b)) ∧ w' = w := by
  by_cases h1 : a ≤ x <;> by_cases h2 : x ≤ b
  all_goals
    go_enter Tryz.func60, Tryz.ntmps60
    go_wp2
    go_ret
    exact ⟨ret_bool (by simp [inB]; omega), rfl⟩

set_option maxHeartbeats 400000 in
theorem within_any (x a b : Int) (w : World) :
    Calls Tryz.prog 47 #[.int .i64 x, .int .i64 a, .int .i64 b] w fun e w' => e = .returned (.bool (inB x a b)) ∧ w' = w := by
  by_cases h1 : a ≤ x <;> by_cases h2 : x ≤ b
  all_goals
    go_enter Tryz.func47, Tryz.ntmps47
    go_wp2
    go_ret
    exact ⟨ret_bool (by simp [inB]; omega), rfl⟩

theorem l1In_is {c : Bool} (x a b : Int) (w : World) (hc : inB x a b = c) :
    Calls Tryz.prog 60 #[.int .i64 x, .int .i64 a, .int .i64 b] w fun e w' => e = .returned (.bool c) ∧ w' = w := by
  subst hc; exact l1In_any x a b w
theorem within_is {c : Bool} (x a b : Int) (w : World) (hc : inB x a b = c) :
    Calls Tryz.prog 47 #[.int .i64 x, .int .i64 a, .int .i64 b] w fun e w' => e = .returned (.bool c) ∧ w' = w := by
  subst hc; exact within_any x a b w

theorem allB_true {zs : List Int} {a b : Int} (h : ∀ j, j < zs.length → inB (nth zs j) a b = true) : allB zs a b = true := by
  simp only [allB, decide_eq_true_eq]; exact h
theorem allB_false {zs : List Int} {a b : Int} {j : Nat} (hj : j < zs.length) (h : inB (nth zs j) a b = false) : allB zs a b = false := by
  simp only [allB, decide_eq_false_iff_not]; intro k; have := k j hj; rw [h] at this; cases this



theorem riseB_true {zs : List Int} (h : ∀ j, j + 1 < zs.length → nth zs j < nth zs (j + 1)) : riseB zs = true := by
  simp only [riseB, decide_eq_true_eq]; exact fun i hi => h i (by omega)
theorem riseB_false {zs : List Int} {j : Nat} (hj : j + 1 < zs.length) (h : nth zs (j + 1) ≤ nth zs j) : riseB zs = false := by
  simp only [riseB, decide_eq_false_iff_not]; intro k; have := k j (by omega); omega


set_option maxHeartbeats 400000 in
theorem ascending_any (ad : Option Addr) (len cap : Nat) (zs : List Int) (w : World) (hr : Row w ad len zs) :
    Calls Tryz.prog 82 #[.slice ad len cap] w fun e w' => e = .returned (.bool (riseB zs)) ∧ ∃ n, w' = w.drewN n := by
  have hz := hr.len_eq
  have hs := hr.small
  have hopen := hr.open_
  clear hr
  subst hz
  go_enter Tryz.func82, Tryz.ntmps82
  go_wp2
  go_loopw [3] (fun i wr => ∃ k n : Nat, i = .int .i64 ((k : Int) + 1) ∧ k ≤ zs.length ∧ Hid (∀ j, j < k → j + 1 < zs.length → nth zs j < nth zs (j + 1)) ∧ wr = w.drewN n) (fun i _ => zs.length + 1 - (intOf i).toNat)
  case atStart => exact ⟨0, 0, rfl, by omega, (fun j hj => by omega), rfl⟩
  case round =>
    obtain ⟨k, n, rfl, hk, hall, rfl⟩ := hrel
    by_cases hlt : k + 1 < zs.length
    · rcases hopen with ⟨h0, _⟩ | ⟨bb, off, rfl, _, hc⟩
      · simp [h0] at hlt
      have hc1 := hc k (by omega)
      have hc2 := hc (k + 1) hlt
      have hi1 : (0 : Int) ≤ (k : Int) := by omega
      have hi2 : (k : Int) < (zs.length : Int) := by omega
      have hi3 : (k : Int) + 1 < (zs.length : Int) := by omega
      have hi4 : ((k : Int) + 1).toNat = k + 1 := by omega
      clear hc
      by_cases hin : nth zs k < nth zs (k + 1)
      · go_wp2
        go_quiet (fail)
        go_wp2
        go_roundw
        case rel => exact ⟨k + 1, _, by go_num, by omega, (fun j hj h2 => by rcases Nat.lt_succ_iff_lt_or_eq.1 hj with h | h; exact hall.out j h h2; subst h; exact hin), rfl⟩
        case measure => simp [intOf]; omega
      · go_wp2
        go_quiet (fail)
        go_wp2
        go_ret
        exact ⟨ret_bool (riseB_false hlt (by omega)).symm, dn2 _ _ _⟩
    · go_wp2
      go_ret
      exact ⟨ret_bool (riseB_true fun j hj => hall.out j (by omega) hj).symm, n, rfl⟩

theorem eqB_true {xs ys : List Int} (hl : xs.length = ys.length) (h : ∀ j, j < xs.length → nth xs j = nth ys j) : eqB xs ys = true := by
  simp only [eqB, decide_eq_true_eq]; exact ⟨hl, h⟩
theorem eqB_false {xs ys : List Int} {j : Nat} (hj : j < xs.length) (h : ¬ nth xs j = nth ys j) : eqB xs ys = false := by
  simp only [eqB, decide_eq_false_iff_not]; intro k; exact h (k.2 j hj)
theorem eqB_len {xs ys : List Int} (h : ¬ xs.length = ys.length) : eqB xs ys = false := by
  simp only [eqB, decide_eq_false_iff_not]; intro k; exact h k.1
theorem eqB_refl (xs : List Int) : eqB xs xs = true := eqB_true rfl fun _ _ => rfl

set_option maxHeartbeats 400000 in
theorem eqIntS_any (ad bd : Option Addr) (len cap len2 cap2 : Nat) (zs ys : List Int) (w : World) (hr : Row w ad len zs) (hr2 : Row w bd len2 ys) :
    Calls Tryz.prog 28 #[.slice ad len cap, .slice bd len2 cap2] w fun e w' => e = .returned (.bool (eqB zs ys)) ∧ ∃ n, w' = w.drewN n := by
  have hz := hr.len_eq
  have hs := hr.small
  have hopen := hr.open_
  have hz2 := hr2.len_eq
  have hs2 := hr2.small
  have hopen2 := hr2.open_
  clear hr hr2
  subst hz
  subst hz2
  by_cases hne : zs.length = ys.length
  · have hb : ((zs.length : Int) != (ys.length : Int)) = false := by simp; omega
    have Hne := hide hne
    have hle : zs.length ≤ ys.length := by omega
    clear hne
    go_enter Tryz.func28, Tryz.ntmps28
    go_wp2
    go_loopw [5] (fun i wr => ∃ k n : Nat, k ≤ zs.length ∧ i = .int .i64 k ∧ Hid (∀ j, j < k → nth zs j = nth ys j) ∧ wr = w.drewN n) (fun i _ => zs.length - (intOf i).toNat)
    case atStart => exact ⟨0, 0, Nat.zero_le _, rfl, (fun j hj => by omega), rfl⟩
    case round =>
      obtain ⟨k, n, hk, rfl, hall, rfl⟩ := hrel
      by_cases hlt : k < zs.length
      · rcases hopen with ⟨h0, _⟩ | ⟨bb, off, rfl, _, hc⟩
        · omega
        rcases hopen2 with ⟨h0, _⟩ | ⟨bb2, off2, rfl, _, hc2⟩
        · omega
        have hcell := hc k hlt
        have hcell2 := hc2 k (by omega)
        have hi1 : (0 : Int) ≤ (k : Int) := by omega
        have hi2 : (k : Int) < (zs.length : Int) := by omega
        have hi3 : (k : Int) < (ys.length : Int) := by omega
        clear hc hc2
        by_cases hin : nth zs k = nth ys k
        · have hbin : (nth zs k != nth ys k) = false := by simp [hin]
          have Hin := hide hin
          clear hin
          go_wp2
          go_quiet (fail)
          go_wp2
          go_roundw
          case rel => exact ⟨k + 1, _, by omega, by go_num, (fun j hj => by rcases Nat.lt_succ_iff_lt_or_eq.1 hj with h | h; exact hall.out j h; subst h; exact unhide Hin), rfl⟩
          case measure => simp [intOf]; omega
        · have hbin : (nth zs k != nth ys k) = true := by simp [hin]
          have Hin := hide hin
          clear hin
          go_wp2
          go_quiet (fail)
          go_wp2
          go_ret
          exact ⟨ret_bool (eqB_false hlt (unhide Hin)).symm, dn2 _ _ _⟩
      · go_wp2
        go_ret
        exact ⟨ret_bool (eqB_true (unhide Hne) fun j hj => hall.out j (by omega)).symm, n, rfl⟩
  · have hb : ((zs.length : Int) != (ys.length : Int)) = true := by simp; omega
    go_enter Tryz.func28, Tryz.ntmps28
    go_wp2
    go_ret
    exact ⟨ret_bool (eqB_len hne).symm, 0, rfl⟩

end Go.Proofs.YtemodlgmjgdjpaaGreatDoor

namespace Go.Proofs.YtemodlgmjgdjpaaGreatDoor
open Go.RowKit

theorem addr0 (B j : Nat) : (⟨B, 0, none⟩ : Addr).add j = ⟨B, j, none⟩ := by unfold Addr.add; simp; exact fun h => h.symm
theorem run_loadVar {t : TypeId} {w : World} {B : Nat} {vs : List Value} (hA : ∀ w, (isAgg t).run Tryz.prog w = .ok true w) (hZ : ∀ w, (Go.sizeOf t).run Tryz.prog w = .ok vs.length w) (hb : Blk w B vs) :
    (loadVar t ⟨B, 0, none⟩).run Tryz.prog w = .ok (.agg vs.toArray) w := by
  have hl := run_loadCells_list (P := Tryz.prog) (w := w) ⟨B, 0, none⟩ vs (fun j v hj => by
    obtain ⟨h, e⟩ := List.getElem?_eq_some_iff.1 hj
    rw [addr0, ← e]; exact hb.c j h)
  unfold loadVar
  simp [hA, hZ, hl]
theorem Blk.setCells {w : World} {B : Nat} {us vs : List Value} (h : Blk w B us) (hl : us.length = vs.length) : Blk (w.setCells B 0 vs) B vs ∧ w.grownBy (w.setCells B 0 vs) (some B) := by
  have gr : ∀ (vs : List Value) (o : Nat) (w : World), w.grownBy (w.setCells B o vs) (some B) := by
    intro vs
    induction vs with
    | nil => intro o w; exact ⟨rfl, rfl, rfl, Nat.le_refl _, fun _ _ _ => rfl⟩
    | cons v r ih =>
      intro o w
      have h1 := ih (o + 1) (w.setCell ⟨B, o, none⟩ v)
      refine ⟨h1.os, h1.tape, h1.output, Nat.le_trans (by simp [World.setCell]) h1.size, fun k hk hne => ?_⟩
      have hkB : k ≠ B := fun e => hne (by rw [e])
      exact (h1.block k (by simpa [World.setCell] using hk) hne).trans (Below.heap_setCell _ _ _ _ hkB)
  refine ⟨⟨fun i hi => ?_, fun i hi => ?_, Nat.lt_of_lt_of_le h.lt (gr vs 0 w).size⟩, gr vs 0 w⟩
  · have := World.cell?_setCells_in B vs 0 w (fun j hj => by rw [Nat.zero_add, h.c j (by omega)]; rfl) i hi
    simpa using this
  · rw [World.frozen?_setCells]; exact h.f i (by omega)
theorem run_storeVar {t : TypeId} {w : World} {B : Nat} {us vs : List Value} (hZ : ∀ w, (Go.sizeOf t).run Tryz.prog w = .ok vs.length w) (hl : us.length = vs.length) (h1 : ∀ v ∈ vs, v.oneCell' = true) (hb : Blk w B us) :
    (storeVar t ⟨B, 0, none⟩ (.agg vs.toArray)).run Tryz.prog w = .ok () (w.setCells B 0 vs) := by
  have hs := run_storeCells_cells (P := Tryz.prog) B 0 vs 0 w (fun j hj => by rw [show 0 + 0 + j = j by omega, hb.c j (by omega)]; rfl) (fun j hj => by rw [show 0 + 0 + j = j by omega]; exact hb.f j (by omega)) h1
  unfold storeVar
  simp [hZ, Value.cells, hs]

theorem at_loadAgg {ops : Array Oper} {rest : List Oper} {d : Option Tmp} {t ty : TypeId} {s : Operand} {pos : String} {af : Array Edge} {a : Act} {Q : Exit → Act → World → Prop} {w : World} {B : Nat} {vs : List Value}
    (hA : ∀ w, (isAgg t).run Tryz.prog w = .ok true w) (hZ : ∀ w, (Go.sizeOf t).run Tryz.prog w = .ok vs.length w) (hs : a.eval s = .pointer (some ⟨B, 0, none⟩)) (hb : Blk w B vs)
    (hK : wpList Tryz.prog ops Q rest (a.put d (.agg vs.toArray)) w) : wpList Tryz.prog ops Q (⟨d, .load t s, ty, pos, af, none⟩ :: rest) a w := by
  refine wpList_plain rfl fun K hK' => ?_
  have hr := run_loadVar hA hZ hb
  unfold Oper.wp
  simp [execOp, hs, Instr.loadAt, Instr.sureAddr, hr, Result.andThen]
  exact hK' _ _ hK
theorem at_storeAgg {ops : Array Oper} {rest : List Oper} {t ty : TypeId} {s x : Operand} {pos : String} {af : Array Edge} {a : Act} {Q : Exit → Act → World → Prop} {w : World} {B : Nat} {us vs : List Value}
    (hZ : ∀ w, (Go.sizeOf t).run Tryz.prog w = .ok vs.length w) (hs : a.eval s = .pointer (some ⟨B, 0, none⟩)) (hx : a.eval x = .agg vs.toArray) (hb : Blk w B us) (hl : us.length = vs.length) (h1 : ∀ v ∈ vs, v.oneCell' = true)
    (hK : ∀ w2, Blk w2 B vs → w.grownBy w2 (some B) → wpList Tryz.prog ops Q rest a w2) : wpList Tryz.prog ops Q (⟨none, .store t s x, ty, pos, af, none⟩ :: rest) a w := by
  refine wpList_plain rfl fun K hK' => ?_
  have hr := run_storeVar hZ hl h1 hb
  have h2 := hb.setCells hl
  unfold Oper.wp
  simp [execOp, hs, hx, Instr.storeAt, Instr.sureAddr, hr, Result.andThen]
  exact hK' _ _ (hK _ h2.1 h2.2)

/-- A result that stands in such a block. -/
theorem results_cell {fn : Func} {p : Tmp} {t : TypeId} {tmps : Array Value} {w : World} {B : Nat} {vs : List Value} (h : fn.results = #[.cell p t]) (hA : ∀ w, (isAgg t).run Tryz.prog w = .ok true w) (hZ : ∀ w, (Go.sizeOf t).run Tryz.prog w = .ok vs.length w)
    (hp : tmps.getD p undef = .pointer (some ⟨B, 0, none⟩)) (hb : Blk w B vs) : (results fn tmps).run Tryz.prog w = .ok (.agg vs.toArray) w := by
  have hr := run_loadVar hA hZ hb
  have hp' : tmps[p]?.getD undef = .pointer (some ⟨B, 0, none⟩) := by simpa using hp
  simp only [results, h]
  simp [hp', asAddr, hr]

end Go.Proofs.YtemodlgmjgdjpaaGreatDoor

namespace Go.Proofs.YtemodlgmjgdjpaaGreatDoor
open Go.RowKit

/-- The numbers at a place of a list of pairs; 0 where there is none. -/
def fstAt (ps : List (Int × Int)) (i : Nat) : Int := (ps[i]?.getD (0, 0)).1
def sndAt (ps : List (Int × Int)) (i : Nat) : Int := (ps[i]?.getD (0, 0)).2

structure Row2 (w : World) (a : Option Addr) (len : Nat) (ps : List (Int × Int)) : Prop where
  len_eq : ps.length = len
  small : len ≤ 9223372036854775807
  cells : ∀ i, i < len → ∃ b off, a = some ⟨b, off, none⟩ ∧ w.cell? ⟨b, off + i * 2, none⟩ = some (.int .i64 (fstAt ps i)) ∧ w.cell? ⟨b, off + i * 2 + 1, none⟩ = some (.int .i64 (sndAt ps i))
  fit : ∀ i : Nat, (-9223372036854775808 ≤ fstAt ps i ∧ fstAt ps i ≤ 9223372036854775807) ∧ (-9223372036854775808 ≤ sndAt ps i ∧ sndAt ps i ≤ 9223372036854775807)

theorem Row2.open_ {w : World} {a : Option Addr} {len : Nat} {ps : List (Int × Int)} (h : Row2 w a len ps) :
    (len = 0 ∧ ps = []) ∨ ∃ b off, a = some ⟨b, off, none⟩ ∧ 0 < len ∧ ∀ i, i < len → w.cell? ⟨b, off + i * 2, none⟩ = some (.int .i64 (fstAt ps i)) ∧ w.cell? ⟨b, off + i * 2 + 1, none⟩ = some (.int .i64 (sndAt ps i)) := by
  by_cases h0 : len = 0
  · exact .inl ⟨h0, List.length_eq_zero_iff.1 (by rw [h.len_eq, h0])⟩
  · obtain ⟨b, off, ha, _⟩ := h.cells 0 (by omega)
    refine .inr ⟨b, off, ha, by omega, fun i hi => ?_⟩
    obtain ⟨b', off', ha', hc⟩ := h.cells i hi
    rw [ha] at ha'
    simp only [Option.some.injEq, Addr.mk.injEq] at ha'
    obtain ⟨rfl, rfl, _⟩ := ha'
    exact hc

theorem Row2.below {w w' : World} {a : Option Addr} {len : Nat} {ps : List (Int × Int)} (h : Row2 w a len ps) (k : Below w.heap.size w w') : Row2 w' a len ps := by
  refine ⟨h.len_eq, h.small, fun i hi => ?_, h.fit⟩
  obtain ⟨b, off, ha, hc, hd⟩ := h.cells i hi
  exact ⟨b, off, ha, (k.cell (block_lt_of_cell hc)).trans hc, (k.cell (block_lt_of_cell hd)).trans hd⟩
theorem Row2.alloc {w : World} {a : Option Addr} {len : Nat} {ps : List (Int × Int)} (h : Row2 w a len ps) (o : Obj) : Row2 (w.alloc o) a len ps := h.below (bel1 o)
theorem Row2.drewN {w : World} {a : Option Addr} {len : Nat} {ps : List (Int × Int)} (h : Row2 w a len ps) (n : Nat) : Row2 (w.drewN n) a len ps := h.below (bel0d n)
theorem Row2.setCell {w : World} {g : Nat} {len : Nat} {ps : List (Int × Int)} (h : Row2 w (some ⟨g, 0, none⟩) len ps) {p : Addr} (hp : p.block ≠ g) (v : Value) : Row2 (w.setCell p v) (some ⟨g, 0, none⟩) len ps := by
  refine ⟨h.len_eq, h.small, fun i hi => ?_, h.fit⟩
  obtain ⟨b, off, ha, hc, hd⟩ := h.cells i hi
  simp only [Option.some.injEq, Addr.mk.injEq, and_true] at ha
  obtain ⟨rfl, rfl⟩ := ha
  exact ⟨_, _, rfl, (World.cell?_setCell_other w _ _ _ (by intro e; rw [e] at hp; exact hp rfl)).trans hc, (World.cell?_setCell_other w _ _ _ (by intro e; rw [e] at hp; exact hp rfl)).trans hd⟩

end Go.Proofs.YtemodlgmjgdjpaaGreatDoor

namespace Go.Proofs.YtemodlgmjgdjpaaGreatDoor
open Go.RowKit

def Fit2 (ps : List (Int × Int)) : Prop := ∀ i : Nat, (-9223372036854775808 ≤ fstAt ps i ∧ fstAt ps i ≤ 9223372036854775807) ∧ (-9223372036854775808 ≤ sndAt ps i ∧ sndAt ps i ≤ 9223372036854775807)

structure Own2 (w : World) (base : Nat) (T : TypeId) (v : Value) (ps : List (Int × Int)) : Prop where
  own : ∃ xs : List Value, w.ownsRow base T 2 v ps.length xs ∧ ∀ j, j < ps.length → xs[j * 2]? = some (.int .i64 (fstAt ps j)) ∧ xs[j * 2 + 1]? = some (.int .i64 (sndAt ps j))
  fit : Fit2 ps

/-- What such a value looks like. -/
theorem Own2.form {w : World} {base : Nat} {T : TypeId} {v : Value} {ps : List (Int × Int)} (h : Own2 w base T v ps) :
    (v = .slice none 0 0 ∧ ps = []) ∨ ∃ g cap, v = .slice (some ⟨g, 0, none⟩) ps.length cap ∧ base ≤ g ∧ g < w.heap.size ∧ ps.length ≤ cap ∧ cap ≤ maxLen := by
  obtain ⟨xs, ho, _⟩ := h.own
  rcases ho.2 with ⟨hv, h0⟩ | ⟨g, cap, cur, hv, hb, hg, hc, hm, _⟩
  · exact .inl ⟨hv, List.length_eq_zero_iff.1 h0⟩
  · refine .inr ⟨g, cap, hv, hb, ?_, hc, hm⟩
    rcases Nat.lt_or_ge g w.heap.size with hlt | hge
    · exact hlt
    · rw [Array.getElem?_eq_none hge] at hg; cases hg

theorem Own2.slice {w : World} {base : Nat} {T : TypeId} {v : Value} {ps : List (Int × Int)} (h : Own2 w base T v ps) : ∃ a cap, v = .slice a ps.length cap ∧ ps.length ≤ cap ∧ Row2 w a ps.length ps := by
  have hf := h.fit
  obtain ⟨xs, ho, hx⟩ := h.own
  rcases h.form with ⟨rfl, h0⟩ | ⟨g, cap, rfl, _, _, hc, hm⟩
  · subst h0; exact ⟨none, 0, rfl, Nat.le_refl _, ⟨rfl, by simp, fun i hi => by simp at hi, hf⟩⟩
  · refine ⟨_, cap, rfl, hc, ⟨rfl, ?_, fun i hi => ⟨_, _, rfl, ?_, ?_⟩, hf⟩⟩
    · unfold maxLen at hm; omega
    · rw [Nat.zero_add, ho.cellAt (i * 2) (by omega)]; exact (hx i hi).1
    · rw [Nat.zero_add, ho.cellAt (i * 2 + 1) (by omega)]; exact (hx i hi).2

theorem Own2.row {w : World} {base : Nat} {T : TypeId} {a : Option Addr} {len cap : Nat} {ps : List (Int × Int)} (h : Own2 w base T (.slice a len cap) ps) : Row2 w a len ps := by
  obtain ⟨a', cap', e, _, hr⟩ := h.slice
  simp only [Value.slice.injEq] at e
  obtain ⟨rfl, rfl, rfl⟩ := e
  exact hr

theorem Own2.below {w w' : World} {base : Nat} {T : TypeId} {v : Value} {ps : List (Int × Int)} (h : Own2 w base T v ps) (k : Below w.heap.size w w') : Own2 w' base T v ps := by
  obtain ⟨xs, ho, hx⟩ := h.own
  exact ⟨⟨xs, ownsRow_below ho k, hx⟩, h.fit⟩
theorem Own2.drewN {w : World} {base : Nat} {T : TypeId} {v : Value} {ps : List (Int × Int)} (h : Own2 w base T v ps) (n : Nat) : Own2 (w.drewN n) base T v ps := h.below (bel0d n)
theorem Own2.mono {w : World} {base base' : Nat} {T : TypeId} {v : Value} {ps : List (Int × Int)} (h : Own2 w base T v ps) (hb : base' ≤ base) : Own2 w base' T v ps := by
  obtain ⟨xs, ⟨h1, h2⟩, hx⟩ := h.own
  refine ⟨⟨xs, ⟨h1, ?_⟩, hx⟩, h.fit⟩
  rcases h2 with h2 | ⟨g, cap, cur, a, b, c⟩
  · exact .inl h2
  · exact .inr ⟨g, cap, cur, a, by omega, c⟩

/-- Another block's turning leaves it. -/
theorem Own2.far {w w' : World} {base : Nat} {T : TypeId} {v : Value} {ps : List (Int × Int)} {row : Option Nat} (h : Own2 w base T v ps) (k : w.grownBy w' row) (hne : ∀ g, v.ownBlock = some g → some g ≠ row) : Own2 w' base T v ps := by
  obtain ⟨xs, ⟨h1, h2⟩, hx⟩ := h.own
  refine ⟨⟨xs, ⟨h1, ?_⟩, hx⟩, h.fit⟩
  rcases h2 with h2 | ⟨g, cap, cur, rfl, b, c, d⟩
  · exact .inl h2
  · refine .inr ⟨g, cap, cur, rfl, b, ?_, d⟩
    have hg : g < w.heap.size := by
      rcases Nat.lt_or_ge g w.heap.size with hlt | hge
      · exact hlt
      · rw [Array.getElem?_eq_none hge] at c; cases c
    rw [k.block g hg (hne g rfl)]; exact c
theorem Row2.far {w w' : World} {g off len : Nat} {ps : List (Int × Int)} {row : Option Nat} (h : Row2 w (some ⟨g, off, none⟩) len ps) (k : w.grownBy w' row) (hne : some g ≠ row) : Row2 w' (some ⟨g, off, none⟩) len ps := by
  refine ⟨h.len_eq, h.small, fun i hi => ?_, h.fit⟩
  obtain ⟨b, off', ha, hc, hd⟩ := h.cells i hi
  simp only [Option.some.injEq, Addr.mk.injEq, and_true] at ha
  obtain ⟨rfl, rfl⟩ := ha
  have hb := block_lt_of_cell hc
  have hk := k.block g hb hne
  exact ⟨_, _, rfl, (World.cell?_of_block (a := ⟨g, off + i * 2, none⟩) hk).trans hc, (World.cell?_of_block (a := ⟨g, off + i * 2 + 1, none⟩) hk).trans hd⟩

/-- One cell of it may be read and written. -/
theorem Own2.here {w : World} {base : Nat} {T : TypeId} {g cap : Nat} {ps : List (Int × Int)} (h : Own2 w base T (.slice (some ⟨g, 0, none⟩) ps.length cap) ps) (i : Nat) (hi : i < ps.length) :
    (w.cell? ⟨g, i * 2, none⟩ = some (.int .i64 (fstAt ps i)) ∧ w.cell? ⟨g, i * 2 + 1, none⟩ = some (.int .i64 (sndAt ps i))) ∧ w.frozen? ⟨g, i * 2, none⟩ = false ∧ w.frozen? ⟨g, i * 2 + 1, none⟩ = false := by
  obtain ⟨xs, ho, hx⟩ := h.own
  refine ⟨⟨?_, ?_⟩, ho.frozenAt _, ho.frozenAt _⟩
  · rw [ho.cellAt (i * 2) (by omega)]; exact (hx i hi).1
  · rw [ho.cellAt (i * 2 + 1) (by omega)]; exact (hx i hi).2

theorem fstAt_set (ps : List (Int × Int)) (i j : Nat) (a b : Int) (hi : i < ps.length) : fstAt (ps.set i (a, b)) j = if j = i then a else fstAt ps j := by
  unfold fstAt
  by_cases e : j = i
  · subst e; rw [List.getElem?_set_self hi]; simp
  · rw [List.getElem?_set_ne (by omega)]; simp [e]
theorem sndAt_set (ps : List (Int × Int)) (i j : Nat) (a b : Int) (hi : i < ps.length) : sndAt (ps.set i (a, b)) j = if j = i then b else sndAt ps j := by
  unfold sndAt
  by_cases e : j = i
  · subst e; rw [List.getElem?_set_self hi]; simp
  · rw [List.getElem?_set_ne (by omega)]; simp [e]

/-- A store into the first number of a pair. -/
theorem Own2.setFst {w : World} {base : Nat} {T : TypeId} {g cap : Nat} {ps : List (Int × Int)} (h : Own2 w base T (.slice (some ⟨g, 0, none⟩) ps.length cap) ps) (i : Nat) (hi : i < ps.length) (a : Int) (ha : -9223372036854775808 ≤ a ∧ a ≤ 9223372036854775807) :
    Own2 (w.setCell ⟨g, i * 2, none⟩ (.int .i64 a)) base T (.slice (some ⟨g, 0, none⟩) ps.length cap) (ps.set i (a, sndAt ps i)) := by
  have hf := h.fit
  obtain ⟨xs, ho, hx⟩ := h.own
  have hl := ho.1
  have o1 := (ho.stored (i * 2) (.int .i64 a)).1
  refine ⟨⟨_, by rw [List.length_set]; exact o1, fun j hj => ?_⟩, fun j => ?_⟩
  · rw [List.length_set] at hj
    rw [fstAt_set _ _ _ _ _ hi, sndAt_set _ _ _ _ _ hi]
    by_cases e : j = i
    · subst e
      rw [if_pos rfl, if_pos rfl]
      exact ⟨List.getElem?_set_self (by omega), by rw [List.getElem?_set_ne (by omega)]; exact (hx j hj).2⟩
    · rw [if_neg e, if_neg e]
      exact ⟨by rw [List.getElem?_set_ne (by omega)]; exact (hx j hj).1, by rw [List.getElem?_set_ne (by omega)]; exact (hx j hj).2⟩
  · rw [fstAt_set _ _ _ _ _ hi, sndAt_set _ _ _ _ _ hi]
    by_cases e : j = i
    · rw [if_pos e, if_pos e]; exact ⟨ha, (hf i).2⟩
    · rw [if_neg e, if_neg e]; exact hf j
/-- A store into the second. -/
theorem Own2.setSnd {w : World} {base : Nat} {T : TypeId} {g cap : Nat} {ps : List (Int × Int)} (h : Own2 w base T (.slice (some ⟨g, 0, none⟩) ps.length cap) ps) (i : Nat) (hi : i < ps.length) (a : Int) (ha : -9223372036854775808 ≤ a ∧ a ≤ 9223372036854775807) :
    Own2 (w.setCell ⟨g, i * 2 + 1, none⟩ (.int .i64 a)) base T (.slice (some ⟨g, 0, none⟩) ps.length cap) (ps.set i (fstAt ps i, a)) := by
  have hf := h.fit
  obtain ⟨xs, ho, hx⟩ := h.own
  have hl := ho.1
  have o1 := (ho.stored (i * 2 + 1) (.int .i64 a)).1
  refine ⟨⟨_, by rw [List.length_set]; exact o1, fun j hj => ?_⟩, fun j => ?_⟩
  · rw [List.length_set] at hj
    rw [fstAt_set _ _ _ _ _ hi, sndAt_set _ _ _ _ _ hi]
    by_cases e : j = i
    · subst e
      rw [if_pos rfl, if_pos rfl]
      exact ⟨by rw [List.getElem?_set_ne (by omega)]; exact (hx j hj).1, List.getElem?_set_self (by omega)⟩
    · rw [if_neg e, if_neg e]
      exact ⟨by rw [List.getElem?_set_ne (by omega)]; exact (hx j hj).1, by rw [List.getElem?_set_ne (by omega)]; exact (hx j hj).2⟩
  · rw [fstAt_set _ _ _ _ _ hi, sndAt_set _ _ _ _ _ hi]
    by_cases e : j = i
    · rw [if_pos e, if_pos e]; exact ⟨(hf i).1, ha⟩
    · rw [if_neg e, if_neg e]; exact hf j

/-- Nothing but one block is written, and no block made below. -/
theorem grown_set {w wr : World} {g : Nat} (h : w.grownBy wr (some g)) (o : Nat) (u : Value) : w.grownBy (wr.setCell ⟨g, o, none⟩ u) (some g) :=
  ⟨h.os, h.tape, h.output, by have := h.size; simpa [World.setCell] using this, fun k hk hne => (Below.heap_setCell _ _ _ _ (by intro e; subst e; exact hne rfl)).trans (h.block k hk hne)⟩
theorem grown_refl (w : World) (row : Option Nat) : w.grownBy w row := ⟨rfl, rfl, rfl, Nat.le_refl _, fun _ _ _ => rfl⟩
theorem grown_drewN {w wr : World} {row : Option Nat} (h : w.grownBy wr row) (n : Nat) : w.grownBy (wr.drewN n) row := ⟨h.os, h.tape, h.output, h.size, h.block⟩

end Go.Proofs.YtemodlgmjgdjpaaGreatDoor
