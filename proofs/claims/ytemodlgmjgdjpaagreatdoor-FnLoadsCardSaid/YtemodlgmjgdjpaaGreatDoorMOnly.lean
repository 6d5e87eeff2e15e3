/-
  Worlds in which only blocks from one number up to another have turned; what is read, owned or boxed elsewhere stays. No condition.
  Worlds in which only blocks of a set have turned; what is owned or boxed elsewhere stays. No condition.
  A block that another row's growth leaves as it was. No condition.
  Two, three, four variables in blocks of their own, one laid behind the other. No condition.
  Plain mathematics: bounds on products, and the lesser neighbour of a place in a list. No program here.
  What a name is: 1 to 20 bytes, each a letter, a digit or '-', in plain numbers. No program here.
  Loads, seals and what is aboard, in plain numbers and lists. No program here.
  A list behind a list that a call has made: elements of several cells, as a law for the walk. At lists of at most 1000 together, the second not nil.
  Rules of warnings as a Lean structure: a name, a rank, the phases in which it is quiet, whether it latches, what it needs. No program here.
  Rules of warnings in plain terms: which one has a name, whether they are so, which are quiet in a phase, how loud names are. No program here.
-/
import Derived.Test.YtemodlgmjgdjpaaGreatDoorMBase
import Derived.Test.YtemodlgmjgdjpaaGreatDoorMCur
import Derived.Test.YtemodlgmjgdjpaaGreatDoorRowE
import Derived.Test.YtemodlgmjgdjpaaGreatDoorChecked
import Derived.Laws.AppendOwn
import Derived.Laws.OwnMore

namespace Go.Proofs.YtemodlgmjgdjpaaGreatDoor
open Go.RowKit

/-- Only blocks from lo on, and below hi, have turned. -/
structure Only (lo hi : Nat) (w w' : World) : Prop where
  os : w'.os = w.os
  tape : w'.tape = w.tape
  output : w'.output = w.output
  size : w.heap.size ≤ w'.heap.size
  block : ∀ k, k < w.heap.size → (k < lo ∨ hi ≤ k) → w'.heap[k]? = w.heap[k]?
theorem Only.refl (lo hi : Nat) (w : World) : Only lo hi w w := ⟨rfl, rfl, rfl, Nat.le_refl _, fun _ _ _ => rfl⟩
theorem Only.trans {lo hi : Nat} {a b c : World} (h : Only lo hi a b) (k : Only lo hi b c) : Only lo hi a c :=
  ⟨k.os.trans h.os, k.tape.trans h.tape, k.output.trans h.output, Nat.le_trans h.size k.size, fun i hi he => (k.block i (Nat.lt_of_lt_of_le hi h.size) he).trans (h.block i hi he)⟩
theorem Only.of_row {lo hi : Nat} {w w' : World} {row : Option Nat} (h : w.grownBy w' row) (hr : ∀ g, row = some g → lo ≤ g ∧ g < hi) : Only lo hi w w' :=
  ⟨h.os, h.tape, h.output, h.size, fun k hk he => h.block k hk (fun e => by have := hr k e.symm; omega)⟩
theorem Only.of_below {lo hi : Nat} {w w' : World} (h : Below w.heap.size w w') : Only lo hi w w' :=
  ⟨h.os, h.tape, h.output, h.size, fun k hk _ => h.block k hk⟩
theorem Only.mono {lo hi lo' hi' : Nat} {w w' : World} (h : Only lo hi w w') (h1 : lo' ≤ lo) (h2 : hi ≤ hi') : Only lo' hi' w w' :=
  ⟨h.os, h.tape, h.output, h.size, fun k hk he => h.block k hk (by omega)⟩
theorem Only.below {lo hi B : Nat} {w w' : World} (h : Only lo hi w w') (hb : B ≤ lo) (hs : B ≤ w.heap.size) : Below B w w' :=
  ⟨h.os, h.tape, h.output, h.size, fun k hk => h.block k (by omega) (by omega)⟩
theorem below_only {B lo hi : Nat} {a w w' : World} (h : Below B a w) (k : Only lo hi w w') (hb : B ≤ lo) (hs : B ≤ a.heap.size) : Below B a w' :=
  h.trans (k.below hb (Nat.le_trans hs h.size))
theorem Blk.only {lo hi : Nat} {w w' : World} {B : Nat} {vs : List Value} (h : Blk w B vs) (k : Only lo hi w w') (ho : B < lo ∨ hi ≤ B) : Blk w' B vs := by
  have hb := k.block B h.lt ho
  refine ⟨fun i hi => (World.cell?_of_block (a := ⟨B, i, none⟩) hb).trans (h.c i hi), fun i hi => ?_, Nat.lt_of_lt_of_le h.lt k.size⟩
  have h2 := h.f i hi
  unfold World.frozen? at h2 ⊢
  simp only at h2 ⊢
  rw [hb]; exact h2
theorem OwnE.only {α : Type} [Inhabited α] {K : Nat} {cells : α → Nat → Value} {lo hi : Nat} {w w' : World} {base : Nat} {T : TypeId} {v : Value} {ps : List α} (h : OwnE K cells w base T v ps) (k : Only lo hi w w') (hne : ∀ g, v.ownBlock = some g → g < lo ∨ hi ≤ g) : OwnE K cells w' base T v ps := by
  obtain ⟨xs, ⟨h1, h2⟩, hx⟩ := h.own
  refine ⟨⟨xs, ⟨h1, ?_⟩, hx⟩⟩
  rcases h2 with h2 | ⟨g, cap, cur, rfl, b, c, d⟩
  · exact .inl h2
  · refine .inr ⟨g, cap, cur, rfl, b, ?_, d⟩
    have hg : g < w.heap.size := by
      rcases Nat.lt_or_ge g w.heap.size with hlt | hge
      · exact hlt
      · rw [Array.getElem?_eq_none hge] at c; cases c
    rw [k.block g hg (hne g rfl)]; exact c
theorem OwnI.only {lo hi : Nat} {w w' : World} {base : Nat} {v : Value} {zs : List Int} (h : OwnI w base v zs) (k : Only lo hi w w') (hne : ∀ g, v.ownBlock = some g → g < lo ∨ hi ≤ g) : OwnI w' base v zs := by
  obtain ⟨xs, ⟨h1, h2⟩, hx⟩ := h.own
  refine ⟨⟨xs, ⟨h1, ?_⟩, hx⟩, h.fit⟩
  rcases h2 with h2 | ⟨g, cap, cur, rfl, b, c, d⟩
  · exact .inl h2
  · refine .inr ⟨g, cap, cur, rfl, b, ?_, d⟩
    have hg : g < w.heap.size := by
      rcases Nat.lt_or_ge g w.heap.size with hlt | hge
      · exact hlt
      · rw [Array.getElem?_eq_none hge] at c; cases c
    rw [k.block g hg (hne g rfl)]; exact c
theorem ownE_nil {α : Type} [Inhabited α] {K : Nat} {cells : α → Nat → Value} (w : World) (base : Nat) (T : TypeId) : OwnE K cells w base T (.slice none 0 0) ([] : List α) :=
  ⟨⟨[], by simpa using World.ownsRow_nil w base T K, fun j hj => by simp at hj⟩⟩
theorem ownI_nil (w : World) (base : Nat) : OwnI w base (.slice none 0 0) [] :=
  ⟨⟨[], World.ownsRow_nil w base _ 1, fun j hj => by simp at hj⟩, fun i => by simp [nth]⟩
theorem fresh_own {g l c : Nat} {i : Nat} (h : (Value.slice (some ⟨g, 0, none⟩) l c).ownBlock = some i) : i = g := (Option.some.inj h).symm

theorem eqIntS_same (ad bd : Option Addr) (len cap len2 cap2 : Nat) (zs : List Int) (w : World) (hr : Row w ad len zs) (hr2 : Row w bd len2 zs) :
    Calls Tryz.prog 28 #[.slice ad len cap, .slice bd len2 cap2] w fun e w' => e = .returned (.bool true) ∧ Below w.heap.size w w' := by
  refine (eqIntS_any ad bd len cap len2 cap2 zs zs w hr hr2).mono ?_
  rintro e w' ⟨rfl, n, rfl⟩
  exact ⟨ret_bool (eqB_refl zs), bel0d n⟩

end Go.Proofs.YtemodlgmjgdjpaaGreatDoor

namespace Go.Proofs.YtemodlgmjgdjpaaGreatDoor
open Go.RowKit

/-- Only blocks of the set have turned. -/
structure Aps (S : Nat → Prop) (w w' : World) : Prop where
  os : w'.os = w.os
  tape : w'.tape = w.tape
  output : w'.output = w.output
  size : w.heap.size ≤ w'.heap.size
  block : ∀ k, k < w.heap.size → ¬ S k → w'.heap[k]? = w.heap[k]?
theorem Aps.refl (S : Nat → Prop) (w : World) : Aps S w w := ⟨rfl, rfl, rfl, Nat.le_refl _, fun _ _ _ => rfl⟩
theorem Aps.trans {S : Nat → Prop} {a b c : World} (h : Aps S a b) (k : Aps S b c) : Aps S a c :=
  ⟨k.os.trans h.os, k.tape.trans h.tape, k.output.trans h.output, Nat.le_trans h.size k.size, fun i hi he => (k.block i (Nat.lt_of_lt_of_le hi h.size) he).trans (h.block i hi he)⟩
theorem Aps.of_row {S : Nat → Prop} {w w' : World} {row : Option Nat} (h : w.grownBy w' row) (hr : ∀ g, row = some g → S g) : Aps S w w' :=
  ⟨h.os, h.tape, h.output, h.size, fun k hk he => h.block k hk (fun e => he (hr k e.symm))⟩
theorem Aps.of_below {S : Nat → Prop} {w w' : World} (h : Below w.heap.size w w') : Aps S w w' :=
  ⟨h.os, h.tape, h.output, h.size, fun k hk _ => h.block k hk⟩
theorem Aps.mono {S S' : Nat → Prop} {w w' : World} (h : Aps S w w') (h1 : ∀ k, S k → S' k) : Aps S' w w' :=
  ⟨h.os, h.tape, h.output, h.size, fun k hk he => h.block k hk (fun e => he (h1 k e))⟩
theorem Aps.below {S : Nat → Prop} {B : Nat} {w w' : World} (h : Aps S w w') (hb : ∀ k, S k → B ≤ k) (hs : B ≤ w.heap.size) : Below B w w' :=
  ⟨h.os, h.tape, h.output, h.size, fun k hk => h.block k (by omega) (fun e => by have := hb k e; omega)⟩
theorem below_aps {S : Nat → Prop} {B : Nat} {a w w' : World} (h : Below B a w) (k : Aps S w w') (hb : ∀ k, S k → B ≤ k) (hs : B ≤ a.heap.size) : Below B a w' :=
  h.trans (k.below hb (Nat.le_trans hs h.size))
theorem Aps.setS {S : Nat → Prop} {a b : World} (h : Aps S a b) {p : Addr} (hp : S p.block) (v : Value) : Aps S a (b.setCell p v) :=
  h.trans ⟨rfl, rfl, rfl, by simp [World.setCell], fun k _ he => Below.heap_setCell _ _ _ _ (fun e => he (e ▸ hp))⟩
theorem Aps.grow {S : Nat → Prop} {a b c : World} {row : Option Nat} (h : Aps S a b) (gr : b.grownBy c row) (hr : ∀ g, row = some g → S g) : Aps S a c := h.trans (Aps.of_row gr hr)
theorem Aps.alloc {S : Nat → Prop} {a b : World} (h : Aps S a b) (o : Obj) : Aps S a (b.alloc o) := h.trans (Aps.of_below (bel1 _))
theorem Aps.growN {S : Nat → Prop} {a b c : World} {row : Option Nat} (h : Aps S a b) (gr : b.grownBy c row) (hr : ∀ g, row = some g → S g ∨ a.heap.size ≤ g) : Aps S a c :=
  ⟨gr.os.trans h.os, gr.tape.trans h.tape, gr.output.trans h.output, Nat.le_trans h.size gr.size, fun k hk he => (gr.block k (Nat.lt_of_lt_of_le hk h.size) (fun e => by rcases hr k e.symm with x | x; exact he x; omega)).trans (h.block k hk he)⟩
theorem Blk.aps {S : Nat → Prop} {w w' : World} {B : Nat} {vs : List Value} (h : Blk w B vs) (k : Aps S w w') (ho : ¬ S B) : Blk w' B vs := by
  have hb := k.block B h.lt ho
  refine ⟨fun i hi => (World.cell?_of_block (a := ⟨B, i, none⟩) hb).trans (h.c i hi), fun i hi => ?_, Nat.lt_of_lt_of_le h.lt k.size⟩
  have h2 := h.f i hi
  unfold World.frozen? at h2 ⊢
  simp only at h2 ⊢
  rw [hb]; exact h2
theorem OwnE.aps {α : Type} [Inhabited α] {K : Nat} {cells : α → Nat → Value} {S : Nat → Prop} {w w' : World} {base : Nat} {T : TypeId} {v : Value} {ps : List α} (h : OwnE K cells w base T v ps) (k : Aps S w w') (hne : ∀ g, v.ownBlock = some g → ¬ S g) : OwnE K cells w' base T v ps := by
  obtain ⟨xs, ⟨h1, h2⟩, hx⟩ := h.own
  refine ⟨⟨xs, ⟨h1, ?_⟩, hx⟩⟩
  rcases h2 with h2 | ⟨g, cap, cur, rfl, b, c, d⟩
  · exact .inl h2
  · refine .inr ⟨g, cap, cur, rfl, b, ?_, d⟩
    have hg : g < w.heap.size := by
      rcases Nat.lt_or_ge g w.heap.size with hlt | hge
      · exact hlt
      · rw [Array.getElem?_eq_none hge] at c; cases c
    rw [k.block g hg (hne g rfl)]; exact c
/-- A list that was written out, in a block of its own. -/
theorem ownE_lit {α : Type} [Inhabited α] {K : Nat} {cells : α → Nat → Value} {w : World} {base : Nat} {T : TypeId} {ps : List α} {vs : List Value} {n : Nat} (hb : base ≤ w.heap.size) (hn : ps.length = n) (hm : n ≤ 1000) (hl : vs.length = n * K)
    (hc : ∀ j, j < n → ∀ q, q < K → vs[j * K + q]? = some (cells (elAt ps j) q)) : OwnE K cells (w.alloc (Obj.cells vs.toArray T)) base T (.slice (some ⟨w.heap.size, 0, none⟩) n n) ps := by
  subst hn
  refine ⟨⟨vs, ⟨hl, .inr ⟨_, _, vs.toArray, rfl, hb, ?_, Nat.le_refl _, by unfold maxLen; omega, by simpa using hl, by simp [← hl]⟩⟩, hc⟩⟩
  show (w.heap.push _)[w.heap.size]? = _
  simp

end Go.Proofs.YtemodlgmjgdjpaaGreatDoor

namespace Go.Proofs.YtemodlgmjgdjpaaGreatDoor
open Go.RowKit

theorem Blk.apart {w w' : World} {B : Nat} {vs : List Value} {row : Option Nat} (h : Blk w B vs) (k : w.grownBy w' row) (hne : some B ≠ row) : Blk w' B vs := by
  have hb := k.block B h.lt hne
  refine ⟨fun i hi => (World.cell?_of_block (a := ⟨B, i, none⟩) hb).trans (h.c i hi), fun i hi => ?_, Nat.lt_of_lt_of_le h.lt k.size⟩
  have h2 := h.f i hi
  unfold World.frozen? at h2 ⊢
  simp only at h2 ⊢
  rw [hb]; exact h2

/-- A result that stands in a block, and one behind it. -/
theorem results_cellB {fn : Func} {p q : Tmp} {t : TypeId} {tmps : Array Value} {w : World} {B : Nat} {vs : List Value} {x : Value} (h : fn.results = #[.cell p t, .tmp q]) (hA : ∀ w, (isAgg t).run Tryz.prog w = .ok true w) (hZ : ∀ w, (Go.sizeOf t).run Tryz.prog w = .ok vs.length w)
    (hp : tmps.getD p undef = .pointer (some ⟨B, 0, none⟩)) (hb : Blk w B vs) (hq : tmps.getD q undef = x) : (results fn tmps).run Tryz.prog w = .ok (.tuple #[.agg vs.toArray, x]) w := by
  have hr := run_loadVar hA hZ hb
  have hp' : tmps[p]?.getD undef = .pointer (some ⟨B, 0, none⟩) := by simpa using hp
  have hq' : tmps[q]?.getD undef = x := by simpa using hq
  simp only [results, h]
  simp [hp', hq', asAddr, hr]

end Go.Proofs.YtemodlgmjgdjpaaGreatDoor

namespace Go.Proofs.YtemodlgmjgdjpaaGreatDoor
open Go.RowKit

theorem Blk.next {w : World} {B : Nat} (vs : List Value) (T : TypeId) (h : w.heap.size = B) : Blk (w.alloc (Obj.cells vs.toArray T)) B vs := by
  subst h; exact Blk.new vs T
theorem blkAt2_0 {w : World} {v1 v2 : List Value} {T1 T2 : TypeId} : Blk ((w.alloc (Obj.cells v1.toArray T1)).alloc (Obj.cells v2.toArray T2)) w.heap.size v1 := (Blk.new v1 T1).alloc _
theorem blkAt2_1 {w : World} {v1 v2 : List Value} {T1 T2 : TypeId} : Blk ((w.alloc (Obj.cells v1.toArray T1)).alloc (Obj.cells v2.toArray T2)) (w.heap.size + 1) v2 := Blk.next v2 T2 (by simp)
theorem blkAt3_0 {w : World} {v1 v2 v3 : List Value} {T1 T2 T3 : TypeId} : Blk (((w.alloc (Obj.cells v1.toArray T1)).alloc (Obj.cells v2.toArray T2)).alloc (Obj.cells v3.toArray T3)) w.heap.size v1 := blkAt2_0.alloc _
theorem blkAt3_1 {w : World} {v1 v2 v3 : List Value} {T1 T2 T3 : TypeId} : Blk (((w.alloc (Obj.cells v1.toArray T1)).alloc (Obj.cells v2.toArray T2)).alloc (Obj.cells v3.toArray T3)) (w.heap.size + 1) v2 := blkAt2_1.alloc _
theorem blkAt3_2 {w : World} {v1 v2 v3 : List Value} {T1 T2 T3 : TypeId} : Blk (((w.alloc (Obj.cells v1.toArray T1)).alloc (Obj.cells v2.toArray T2)).alloc (Obj.cells v3.toArray T3)) (w.heap.size + 1 + 1) v3 := Blk.next v3 T3 (by simp)

end Go.Proofs.YtemodlgmjgdjpaaGreatDoor

namespace Go.Proofs.YtemodlgmjgdjpaaGreatDoor

theorem mulBd {s d A B : Int} (h1 : -A ≤ s) (h2 : s ≤ A) (h3 : -B ≤ d) (h4 : d ≤ B) (_hA : 0 ≤ A) (_hB : 0 ≤ B) : -(A * B) ≤ s * d ∧ s * d ≤ A * B := by
  have e1 : 0 ≤ (A - s) * (B - d) := Int.mul_nonneg (by omega) (by omega)
  have e2 : 0 ≤ (A + s) * (B + d) := Int.mul_nonneg (by omega) (by omega)
  have e3 : 0 ≤ (A - s) * (B + d) := Int.mul_nonneg (by omega) (by omega)
  have e4 : 0 ≤ (A + s) * (B - d) := Int.mul_nonneg (by omega) (by omega)
  simp only [Int.sub_mul, Int.add_mul, Int.mul_sub, Int.mul_add] at e1 e2 e3 e4
  constructor <;> omega

/-- Whether the place of the lesser neighbour is behind i. -/
def beyond (zs : List Int) (x : Int) (i : Nat) : Bool := decide (i + 2 < zs.length ∧ nth zs (i + 1) ≤ x)
def lowAt (zs : List Int) (x : Int) : Nat := ((List.range zs.length).find? fun i => !beyond zs x i).getD 0

theorem beyond_true {zs : List Int} {x : Int} {i : Nat} (h : i + 2 < zs.length) (h' : nth zs (i + 1) ≤ x) : beyond zs x i = true := by
  simp only [beyond, decide_eq_true_eq]; exact ⟨h, h'⟩
theorem beyond_end {zs : List Int} {x : Int} {i : Nat} (h : ¬ i + 2 < zs.length) : beyond zs x i = false := by
  simp only [beyond, decide_eq_false_iff_not]; exact fun k => h k.1
theorem beyond_less {zs : List Int} {x : Int} {i : Nat} (h : ¬ nth zs (i + 1) ≤ x) : beyond zs x i = false := by
  simp only [beyond, decide_eq_false_iff_not]; exact fun k => h k.2
theorem lowAt_is {zs : List Int} {x : Int} {k : Nat} (hk : k < zs.length) (h : beyond zs x k = false) (hb : ∀ j, j < k → beyond zs x j = true) : lowAt zs x = k := by
  unfold lowAt
  have : (List.range zs.length).find? (fun i => !beyond zs x i) = some k := by
    rw [List.find?_range_eq_some]
    refine ⟨by simp [h], by simpa using hk, fun j hj => ?_⟩
    simp [hb j hj]
  rw [this]; rfl

/-- The lesser neighbour has one behind it. -/
theorem lowAt_lt {zs : List Int} {x : Int} (h : 2 ≤ zs.length) : lowAt zs x + 2 ≤ zs.length := by
  have he : beyond zs x (zs.length - 2) = false := beyond_end (by omega)
  unfold lowAt
  cases hf : (List.range zs.length).find? (fun i => !beyond zs x i) with
  | none => simp; omega
  | some i =>
    rw [List.find?_range_eq_some] at hf
    have := hf.2.2 (zs.length - 2)
    rw [he] at this
    simp only [Option.getD_some]
    by_cases c : zs.length - 2 < i
    · have := this c; simp at this
    · omega

/-- The products and sums of one value between two neighbours. -/
theorem between_bd {x0 x1 y0 y1 x B C : Int} (h1 : -B ≤ x0 ∧ x0 ≤ B) (h2 : -B ≤ x1 ∧ x1 ≤ B) (h3 : -C ≤ y0 ∧ y0 ≤ C) (h4 : -C ≤ y1 ∧ y1 ≤ C) (h5 : -B ≤ x ∧ x ≤ B) :
    (-(C * (2 * B)) ≤ y0 * (x1 - x0) ∧ y0 * (x1 - x0) ≤ C * (2 * B)) ∧ (-(2 * C * (2 * B)) ≤ (y1 - y0) * (x - x0) ∧ (y1 - y0) * (x - x0) ≤ 2 * C * (2 * B)) := by
  exact ⟨mulBd (by omega) (by omega) (by omega) (by omega) (by omega) (by omega), mulBd (by omega) (by omega) (by omega) (by omega) (by omega) (by omega)⟩

theorem ret_pair1 {k : IntKind} {a b : Int} {c : Bool} (h : a = b) : Ending.returned (.tuple #[.int k a, .bool c]) = .returned (.tuple #[.int k b, .bool c]) := by rw [h]

theorem ret_ib {a b : Int} {c d : Bool} (h : a = b) (h2 : c = d) : Ending.returned (.tuple #[.int .i64 a, .bool c]) = .returned (.tuple #[.int .i64 b, .bool d]) := by rw [h, h2]

theorem in_facts {x a b : Int} (h : inB x a b = true) : a ≤ x ∧ x ≤ b := by simpa [inB] using h

end Go.Proofs.YtemodlgmjgdjpaaGreatDoor

namespace Go.Proofs.YtemodlgmjgdjpaaGreatDoor
open Go

/-- Whether a byte may stand in a name. -/
def byteB (c : Int) : Bool := inB c 97 122 || inB c 65 90 || inB c 48 57 || decide (c = 45)
/-- The byte at a place of a text; 0 where there is none. -/
def byAt (s : ByteArray) (i : Nat) : Int := if h : i < s.size then ((s[i]'h).toNat : Int) else 0
theorem byAt_is {s : ByteArray} {i : Nat} (h : i < s.size) : ((s[i]'h).toNat : Int) = byAt s i := by simp [byAt, h]
theorem byAt_bd (s : ByteArray) (i : Nat) : 0 ≤ byAt s i ∧ byAt s i ≤ 255 := by
  unfold byAt
  split
  · rename_i h
    have := (s[i]'h).toNat_lt
    omega
  · omega
/-- Whether a text is a name. -/
def nameB (s : ByteArray) : Bool := inB s.size 1 20 && decide (∀ i, i < s.size → byteB (byAt s i) = true)
theorem nameB_size {s : ByteArray} (h : inB s.size 1 20 = false) : nameB s = false := by simp [nameB, h]
theorem nameB_at {s : ByteArray} {i : Nat} (hi : i < s.size) (h : byteB (byAt s i) = false) : nameB s = false := by
  have : ¬ (∀ i, i < s.size → byteB (byAt s i) = true) := fun k => by have := k i hi; rw [h] at this; cases this
  simp [nameB, this]
theorem nameB_all {s : ByteArray} (h : ∀ i, i < s.size → byteB (byAt s i) = true) : nameB s = inB s.size 1 20 := by
  have : decide (∀ i, i < s.size → byteB (byAt s i) = true) = true := decide_eq_true h
  unfold nameB
  rw [this, Bool.and_true]
theorem nameB_facts {s : ByteArray} (h : nameB s = true) : 1 ≤ s.size ∧ s.size ≤ 20 := by
  simp [nameB, inB] at h; omega

end Go.Proofs.YtemodlgmjgdjpaaGreatDoor

namespace Go.Proofs.YtemodlgmjgdjpaaGreatDoor
open Go Go.RowKit

/-- What a load says: its part, number, fits, needs and data. -/
structure Lc where
  p : ByteArray
  nb : Int
  le : Int
  mo : Int
  ne : Int
  zs : List Int
instance : Inhabited Lc := ⟨⟨⟨#[]⟩, 0, 0, 0, 0, []⟩⟩
/-- Whether a load is sound. -/
def ldB (x : Lc) : Bool := nameB x.p && inB x.nb 1 1000000 && inB x.le 1 x.mo && decide (x.mo ≤ 1000000) && inB x.ne 0 1000000 && decide (x.zs.length ≤ 400)
theorem ldB_facts {x : Lc} (h : ldB x = true) : nameB x.p = true ∧ (1 ≤ x.p.size ∧ x.p.size ≤ 20) ∧ (1 ≤ x.nb ∧ x.nb ≤ 1000000) ∧ (1 ≤ x.le ∧ x.le ≤ x.mo ∧ x.mo ≤ 1000000) ∧ (0 ≤ x.ne ∧ x.ne ≤ 1000000) ∧ x.zs.length ≤ 400 := by
  simp only [ldB, inB, Bool.and_eq_true, decide_eq_true_eq] at h
  obtain ⟨⟨⟨⟨⟨h1, h2⟩, h3⟩, h4⟩, h5⟩, h6⟩ := h
  exact ⟨h1, nameB_facts h1, h2, ⟨h3.1, h3.2, h4⟩, h5, h6⟩

/-- One number more in the seal. -/
def seS (x n : Int) : Int := (x * 31 + n) % 1000003
theorem seS_bd (x n : Int) : 0 ≤ seS x n ∧ seS x n < 1000003 := ⟨Int.emod_nonneg _ (by decide), Int.emod_lt_of_pos _ (by decide)⟩
theorem seS_tmod {x n : Int} (h0 : 0 ≤ x) (h1 : 0 ≤ n) : Int.tmod (x * 31 + n) 1000003 = seS x n := by
  rw [seS, Int.tmod_eq_emod_of_nonneg (by omega)]
/-- The seal of a list of numbers, from x on. -/
def seF (x : Int) (zs : List Int) : Int := zs.foldl seS x
theorem seF_nil (x : Int) : seF x [] = x := rfl
theorem seF_app (x : Int) (ys zs : List Int) : seF x (ys ++ zs) = seF (seF x ys) zs := by simp [seF]
theorem seF_one (x : Int) (ys : List Int) (n : Int) : seF x (ys ++ [n]) = seS (seF x ys) n := by simp [seF]
theorem seF_bd {x : Int} (hx : 0 ≤ x ∧ x < 1000003) (zs : List Int) : 0 ≤ seF x zs ∧ seF x zs < 1000003 := by
  induction zs generalizing x with
  | nil => exact hx
  | cons z zs ih => exact ih (seS_bd x z)
/-- The first k bytes of a text, as numbers. -/
def txL (s : ByteArray) (k : Nat) : List Int := (List.range k).map (byAt s)
theorem txL_len (s : ByteArray) (k : Nat) : (txL s k).length = k := by simp [txL]
theorem txL_succ (s : ByteArray) (k : Nat) : txL s (k + 1) = txL s k ++ [byAt s k] := by simp [txL, List.range_succ]
theorem txL_zero (s : ByteArray) : txL s 0 = [] := rfl
theorem txL_at (s : ByteArray) {k i : Nat} (h : i < k) : elAt (txL s k) i = byAt s i := by simp [elAt, txL, h]
/-- The five numbers of a load. -/
def ldN (x : Lc) : List Int := [x.nb, x.le, x.mo, x.ne, (x.zs.length : Int)]
/-- All that a seal is made of. -/
def ldL (x : Lc) : List Int := txL x.p x.p.size ++ ldN x ++ x.zs
theorem ldL_len (x : Lc) : (ldL x).length = x.p.size + 5 + x.zs.length := by simp [ldL, ldN, txL_len]; omega
def seO (x : Lc) : Int := seF 7 (ldL x)
theorem seO_bd (x : Lc) : 0 ≤ seO x ∧ seO x < 1000003 := seF_bd (by omega) _
theorem seO_parts (x : Lc) : seO x = seF (seF (seF 7 (txL x.p x.p.size)) (ldN x)) x.zs := by rw [seO, ldL, seF_app, seF_app]
theorem seF_take {x : Int} {zs : List Int} {k : Nat} (h : k < zs.length) : seF x (zs.take (k + 1)) = seS (seF x (zs.take k)) (elAt zs k) := by
  rw [List.take_add_one, show zs[k]? = some (elAt zs k) by simp [elAt, h]]
  simp [seF]
theorem ldL_pos {x : Lc} (h : ldB x = true) (hz : ∀ i, i < x.zs.length → 0 ≤ elAt x.zs i ∧ elAt x.zs i ≤ 255) : ∀ n ∈ ldL x, 0 ≤ n ∧ n ≤ 1000000 := by
  obtain ⟨_, _, h2, h3, h4, h5⟩ := ldB_facts h
  intro n hn
  simp only [ldL, ldN, List.mem_append, List.mem_cons, List.not_mem_nil, or_false] at hn
  rcases hn with (hn | hn) | hn
  · simp only [txL, List.mem_map] at hn
    obtain ⟨i, _, rfl⟩ := hn
    have := byAt_bd x.p i; omega
  · omega
  · obtain ⟨i, hi, rfl⟩ := List.getElem_of_mem hn
    have := hz i hi
    have e : elAt x.zs i = x.zs[i] := by simp [elAt, hi]
    omega

/-- The first load of a number: where; -1 if there is none. -/
def fnR (n : Int) : List Lc → Nat → Int
  | [], _ => -1
  | x :: r, i => if x.nb = n then (i : Int) else fnR n r (i + 1)
def fnF (ls : List Lc) (n : Int) : Int := fnR n ls 0
theorem fnR_none {n : Int} : ∀ {ls : List Lc} (i : Nat), (∀ j, j < ls.length → (elAt ls j).nb ≠ n) → fnR n ls i = -1
  | [], _, _ => rfl
  | x :: r, i, h => by
    rw [fnR, if_neg (by simpa [elAt] using h 0 (by simp))]
    exact fnR_none (i + 1) (fun j hj => by simpa [elAt] using h (j + 1) (by simpa using hj))
theorem fnR_at {n : Int} : ∀ {ls : List Lc} (i k : Nat), k < ls.length → (elAt ls k).nb = n → (∀ j, j < k → (elAt ls j).nb ≠ n) → fnR n ls i = ((i + k : Nat) : Int)
  | [], _, k, hk, _, _ => by simp at hk
  | x :: r, i, 0, _, h, _ => by rw [fnR, if_pos (by simpa [elAt] using h)]; simp
  | x :: r, i, k + 1, hk, h, hj => by
    rw [fnR, if_neg (by simpa [elAt] using hj 0 (by omega)), fnR_at (i + 1) k (by simpa using hk) (by simpa [elAt] using h) (fun j h2 => by simpa [elAt] using hj (j + 1) (by omega))]
    congr 1; omega
theorem fnF_none {ls : List Lc} {n : Int} (h : ∀ j, j < ls.length → (elAt ls j).nb ≠ n) : fnF ls n = -1 := fnR_none 0 h
theorem fnF_at {ls : List Lc} {n : Int} {k : Nat} (hk : k < ls.length) (h : (elAt ls k).nb = n) (hj : ∀ j, j < k → (elAt ls j).nb ≠ n) : fnF ls n = (k : Int) := by
  rw [fnF, fnR_at 0 k hk h hj]; simp
theorem fnF_cases (ls : List Lc) (n : Int) : (fnF ls n = -1 ∧ ∀ j, j < ls.length → (elAt ls j).nb ≠ n) ∨ ∃ k, k < ls.length ∧ fnF ls n = (k : Int) ∧ (elAt ls k).nb = n ∧ ∀ j, j < k → (elAt ls j).nb ≠ n := by
  have : ∀ m, m ≤ ls.length → (∀ j, j < m → (elAt ls j).nb ≠ n) ∨ ∃ k, k < ls.length ∧ (elAt ls k).nb = n ∧ ∀ j, j < k → (elAt ls j).nb ≠ n := by
    intro m
    induction m with
    | zero => intro _; left; intro j hj; omega
    | succ m ih =>
      intro hm
      rcases ih (by omega) with h | h
      · by_cases e : (elAt ls m).nb = n
        · exact .inr ⟨m, by omega, e, h⟩
        · left; intro j hj
          rcases Nat.lt_or_ge j m with c | c
          · exact h j c
          · obtain rfl : j = m := by omega
            exact e
      · exact .inr h
  rcases this _ (Nat.le_refl _) with h | ⟨k, hk, e, h⟩
  · exact .inl ⟨fnF_none h, h⟩
  · exact .inr ⟨k, hk, fnF_at hk e h, e, h⟩

/-- Whether the load at a place is as what is aboard asks. -/
def abI (s : Int) (ls : List Lc) (i : Nat) : Bool :=
  ldB (elAt ls i) && decide (0 < i → (elAt ls (i - 1)).nb < (elAt ls i).nb) && inB s (elAt ls i).le (elAt ls i).mo && decide ((elAt ls i).ne ≠ 0 → (elAt ls i).ne ≠ (elAt ls i).nb ∧ 0 ≤ fnF ls (elAt ls i).ne) && decide (∀ k, k < i → (elAt ls k).p ≠ (elAt ls i).p)
def abB (s : Int) (ls : List Lc) : Bool := decide (∀ i, i < ls.length → abI s ls i = true) && inB s 1 1000000 && decide (ls.length ≤ 30)
theorem abB_no {s : Int} {ls : List Lc} {i : Nat} (hi : i < ls.length) (h : abI s ls i = false) : abB s ls = false := by
  have : ¬ ∀ i, i < ls.length → abI s ls i = true := fun k => by have := k i hi; rw [h] at this; cases this
  simp [abB, this]
theorem abB_all {s : Int} {ls : List Lc} (h : ∀ i, i < ls.length → abI s ls i = true) : abB s ls = (inB s 1 1000000 && decide (ls.length ≤ 30)) := by
  unfold abB
  rw [decide_eq_true h, Bool.true_and]
theorem abB_facts {s : Int} {ls : List Lc} (h : abB s ls = true) : (∀ i, i < ls.length → abI s ls i = true) ∧ (1 ≤ s ∧ s ≤ 1000000) ∧ ls.length ≤ 30 := by
  simp only [abB, Bool.and_eq_true, decide_eq_true_eq, inB] at h
  exact ⟨h.1.1, h.1.2, h.2⟩
theorem abI_facts {s : Int} {ls : List Lc} {i : Nat} (h : abI s ls i = true) : ldB (elAt ls i) = true ∧ (0 < i → (elAt ls (i - 1)).nb < (elAt ls i).nb) ∧ ((elAt ls i).le ≤ s ∧ s ≤ (elAt ls i).mo) ∧ ((elAt ls i).ne ≠ 0 → (elAt ls i).ne ≠ (elAt ls i).nb ∧ 0 ≤ fnF ls (elAt ls i).ne) ∧ ∀ k, k < i → (elAt ls k).p ≠ (elAt ls i).p := by
  simp only [abI, Bool.and_eq_true, decide_eq_true_eq, inB] at h
  obtain ⟨⟨⟨⟨h1, h2⟩, h3⟩, h4⟩, h5⟩ := h
  exact ⟨h1, h2, h3, h4, h5⟩
theorem ab_lt {s : Int} {ls : List Lc} (h : abB s ls = true) : ∀ {j i : Nat}, i < j → j < ls.length → (elAt ls i).nb < (elAt ls j).nb
  | 0, i, hij, _ => by omega
  | j + 1, i, hij, hj => by
    have h1 := (abI_facts ((abB_facts h).1 (j + 1) hj)).2.1 (by omega)
    rw [Nat.add_sub_cancel] at h1
    rcases Nat.lt_or_ge i j with c | c
    · have := ab_lt h c (by omega : j < ls.length); omega
    · obtain rfl : i = j := by omega
      exact h1

/-- Whether some load needs a number. -/
def neB (ls : List Lc) (n : Int) : Bool := decide (∃ i, i < ls.length ∧ (elAt ls i).ne = n)
theorem neB_no {ls : List Lc} {n : Int} (h : ∀ i, i < ls.length → (elAt ls i).ne ≠ n) : neB ls n = false := by
  simp only [neB, decide_eq_false_iff_not, not_exists, not_and]; exact h
theorem neB_yes {ls : List Lc} {n : Int} {i : Nat} (hi : i < ls.length) (h : (elAt ls i).ne = n) : neB ls n = true := by
  simp only [neB, decide_eq_true_eq]; exact ⟨i, hi, h⟩
/-- The last of the first k loads with a part; -1 if there is none. -/
def saK (ls : List Lc) (p : ByteArray) : Nat → Int
  | 0 => -1
  | k + 1 => if (elAt ls k).p = p then (k : Int) else saK ls p k
def saF (ls : List Lc) (p : ByteArray) : Int := saK ls p ls.length
theorem saK_bd (ls : List Lc) (p : ByteArray) : ∀ k, -1 ≤ saK ls p k ∧ saK ls p k < k
  | 0 => by simp [saK]
  | k + 1 => by
    have := saK_bd ls p k
    rw [saK]; split <;> omega
theorem saK_none (ls : List Lc) (p : ByteArray) : ∀ k, (∀ i, i < k → (elAt ls i).p ≠ p) → saK ls p k = -1
  | 0, _ => rfl
  | k + 1, h => by rw [saK, if_neg (h k (by omega))]; exact saK_none ls p k (fun i hi => h i (by omega))
theorem saK_at (ls : List Lc) (p : ByteArray) {j : Nat} (hp : (elAt ls j).p = p) : ∀ k, j < k → (∀ i, i < k → j < i → (elAt ls i).p ≠ p) → saK ls p k = (j : Int)
  | 0, h, _ => by omega
  | k + 1, h, hn => by
    rw [saK]
    rcases Nat.lt_or_ge j k with c | c
    · rw [if_neg (hn k (by omega) c)]; exact saK_at ls p hp k c (fun i hi => hn i (by omega))
    · obtain rfl : j = k := by omega
      rw [if_pos hp]

/-- What taking a load answers. -/
def tkC (s : Int) (ls : List Lc) (l : Lc) (sl : Int) : Int :=
  if abB s ls = false ∨ ldB l = false then 1
  else if sl ≠ seO l then 2
  else if inB s l.le l.mo = false then 3
  else if l.ne ≠ 0 ∧ (fnF ls l.ne < 0 ∨ fnF ls l.ne = saF ls l.p) then 4
  else if 0 ≤ saF ls l.p ∧ neB ls (elAt ls (saF ls l.p).toNat).nb = true then 4
  else if (0 ≤ saF ls l.p ∧ l.nb ≤ (elAt ls (saF ls l.p).toNat).nb) ∨ 0 ≤ fnF ls l.nb then 5
  else if saF ls l.p < 0 ∧ ls.length = 30 then 6
  else 0
/-- The loads without those of the same part. -/
def tkO (ls : List Lc) (p : ByteArray) : List Lc := if 0 ≤ saF ls p then ls.take (saF ls p).toNat ++ ls.drop ((saF ls p).toNat + 1) else ls
/-- How many of the first loads have a lesser number. -/
def poF (ls : List Lc) (n : Int) : Nat := (ls.takeWhile (fun x => decide (x.nb < n))).length
theorem poF_le (ls : List Lc) (n : Int) : poF ls n ≤ ls.length := by
  induction ls with
  | nil => simp [poF]
  | cons x r ih =>
    rw [poF, List.takeWhile_cons]
    split
    · simpa [poF] using ih
    · simp
theorem poF_at {n : Int} : ∀ {ls : List Lc} (k : Nat), k ≤ ls.length → (∀ j, j < k → (elAt ls j).nb < n) → (k < ls.length → ¬ (elAt ls k).nb < n) → poF ls n = k
  | [], k, hk, _, _ => by simp at hk; simp [poF, hk]
  | x :: r, 0, _, _, h => by
    have : ¬ x.nb < n := by simpa [elAt] using h (by simp)
    simp [poF, this]
  | x :: r, k + 1, hk, hj, h => by
    have h0 : x.nb < n := by simpa [elAt] using hj 0 (by omega)
    have := poF_at (n := n) (ls := r) k (by simpa using hk) (fun j h2 => by simpa [elAt] using hj (j + 1) (by omega)) (fun h2 => by simpa [elAt] using h (by simpa using h2))
    rw [poF, List.takeWhile_cons, if_pos (by simpa using h0), List.length_cons]
    rw [poF] at this; omega
/-- The loads with one more, at its place. -/
def inF (ls : List Lc) (l : Lc) : List Lc := ls.take (poF ls l.nb) ++ l :: ls.drop (poF ls l.nb)
def tkL (s : Int) (ls : List Lc) (l : Lc) (sl : Int) : List Lc := if tkC s ls l sl = 0 then inF (tkO ls l.p) l else ls
/-- Whether a load may be dropped, and what stays. -/
def drB (s : Int) (ls : List Lc) (n : Int) : Bool := abB s ls && decide (0 ≤ fnF ls n) && !neB ls n
def drL (s : Int) (ls : List Lc) (n : Int) : List Lc := if drB s ls n = true then ls.take (fnF ls n).toNat ++ ls.drop ((fnF ls n).toNat + 1) else ls
/-- Which of the first k loads would be taken with their seals. -/
def efK (s : Int) (ls ms : List Lc) : Nat → List Int
  | 0 => []
  | k + 1 => if tkC s ls (elAt ms k) (seO (elAt ms k)) = 0 then efK s ls ms k ++ [(k : Int)] else efK s ls ms k
theorem efK_len (s : Int) (ls ms : List Lc) : ∀ k, (efK s ls ms k).length ≤ k
  | 0 => by simp [efK]
  | k + 1 => by
    have := efK_len s ls ms k
    rw [efK]; split <;> simp <;> omega
def efB (s : Int) (ls ms : List Lc) : Bool := abB s ls && decide (ms.length ≤ 30) && decide (∀ i, i < ms.length → ldB (elAt ms i) = true)
def efL (s : Int) (ls ms : List Lc) : List Int := if efB s ls ms = true then efK s ls ms ms.length else []
theorem efB_no {s : Int} {ls ms : List Lc} {i : Nat} (hi : i < ms.length) (h : ldB (elAt ms i) = false) : efB s ls ms = false := by
  have : ¬ ∀ i, i < ms.length → ldB (elAt ms i) = true := fun k => by have := k i hi; rw [h] at this; cases this
  simp [efB, this]

end Go.Proofs.YtemodlgmjgdjpaaGreatDoor

namespace Go.Proofs.YtemodlgmjgdjpaaGreatDoor
open Go.RowKit

theorem addr_addR (g o j : Nat) : (⟨g, o, none⟩ : Addr).add j = ⟨g, o + j, none⟩ := by unfold Addr.add; split <;> simp_all
section
variable {α : Type} [Inhabited α] {K : Nat} {cells : α → Nat → Value}

/-- The cells of a list. -/
def flatE (K : Nat) (cells : α → Nat → Value) (ps : List α) : List Value := (List.range (ps.length * K)).map fun p => cells (elAt ps (p / K)) (p % K)
theorem flatE_len (ps : List α) : (flatE K cells ps).length = ps.length * K := by simp [flatE]
theorem flatE_at {ps : List α} {p : Nat} (hp : p < ps.length * K) : (flatE K cells ps)[p]? = some (cells (elAt ps (p / K)) (p % K)) := by simp [flatE, hp]
theorem elAt_right (xs ys : List α) (j : Nat) : elAt (xs ++ ys) (xs.length + j) = elAt ys j := by
  unfold elAt; rw [List.getElem?_append_right (by omega)]; congr 2; omega
theorem elAt_left {xs ys : List α} {j : Nat} (h : j < xs.length) : elAt (xs ++ ys) j = elAt xs j := by
  unfold elAt; rw [List.getElem?_append_left h]
theorem ownE_apps {w : World} {base : Nat} {T : TypeId} {v : Value} {xs ys : List α} {vs : List Value} (hK : 0 < K) (h : w.ownsRow base T K v (xs.length + ys.length) (vs ++ flatE K cells ys)) (hl : vs.length = xs.length * K)
    (hx : ∀ j, j < xs.length → ∀ q, q < K → vs[j * K + q]? = some (cells (elAt xs j) q)) : OwnE K cells w base T v (xs ++ ys) := by
  refine ⟨⟨_, by rw [List.length_append]; exact h, fun j hj q hq => ?_⟩⟩
  rw [List.length_append] at hj
  by_cases e : j < xs.length
  · rw [elAt_left e, List.getElem?_append_left (by rw [hl]; exact in_row e hq)]
    exact hx j e q hq
  · obtain ⟨i, rfl⟩ : ∃ i, j = xs.length + i := ⟨j - xs.length, by omega⟩
    have hi : i < ys.length := by omega
    have e1 : (xs.length + i) * K + q = vs.length + (i * K + q) := by rw [hl, Nat.add_mul]; omega
    rw [e1, List.getElem?_append_right (by omega), elAt_right, show vs.length + (i * K + q) - vs.length = i * K + q by omega, flatE_at (in_row hi hq)]
    have e2 : (i * K + q) / K = i := by rw [Nat.add_comm, Nat.add_mul_div_right _ _ hK, Nat.div_eq_of_lt hq, Nat.zero_add]
    have e3 : (i * K + q) % K = q := by rw [Nat.add_comm, Nat.add_mul_mod_self_right, Nat.mod_eq_of_lt hq]
    rw [e2, e3]
theorem wpList_app_els {ops : Array Oper} {rest : List Oper} {o : Oper} {a : Act} {Q : Exit → Act → World → Prop} {w : World} (hwn : Region.wanted o (yielded ops a.tmps) = true) (s xo : Operand) (sT eT : TypeId) (ho : o.op = .call { callee := .builtin .append, args := #[s, xo], argTypes := #[sT, sT] })
    (hU : Tryz.prog.underlying sT = some (.slice eT)) {z : Value} {bytes : Nat} (hI : (Tryz.prog.info? eT).map (fun i => (i.zero, i.size, i.bytes)) = some (some z, K, bytes)) (hz : z.cells.size = K) (hK : 0 < K) (hby : bytes ≤ 1000) (h1c : ∀ x q, (cells x q).oneCell' = true)
    {base : Nat} {v : Value} {zs : List α} (hO : OwnE K cells w base eT v zs) (hs : a.eval s = v) (g off m c : Nat) (ys : List α) (hx : a.eval xo = .slice (some ⟨g, off, none⟩) m c) (hy : RowE K cells w (some ⟨g, off, none⟩) m ys) (hm : zs.length + m ≤ 1000) (hb : base ≤ w.heap.size)
    (h : ∀ v' w', OwnE K cells w' base eT v' (zs ++ ys) → w.grownBy w' v.ownBlock → (v' = .slice none 0 0 → v = .slice none 0 0) → wpList Tryz.prog ops Q rest (a.put o.dst v') w') : wpList Tryz.prog ops Q (o :: rest) a w := by
  refine wpList_step fun _ hK' => ?_
  rw [if_pos hwn]
  obtain ⟨i0, hii, hz0, hz1, hz2⟩ := info_parts hI
  obtain ⟨vs, hown, hvx⟩ := hO.own
  have hlen := hy.len_eq
  have hmul : (zs.length + m) * bytes ≤ 1000 * 1000 := Nat.mul_le_mul hm hby
  refine wp_append_own w s xo sT ho base eT i0 z K bytes hU hii hz0 hz1 hz2 hz hK v zs.length vs hs hown ⟨g, off, none⟩ m c (flatE K cells ys) hx (by rw [flatE_len, hlen]) (fun j u hj => ?_) (fun u hu => ?_) (by unfold maxLen; omega) (by omega) hb ?_
  · have hj' : j < ys.length * K := by
      rcases Nat.lt_or_ge j (ys.length * K) with h | h
      · exact h
      · rw [List.getElem?_eq_none (by rw [flatE_len]; exact h)] at hj; cases hj
    rw [flatE_at hj'] at hj
    have hd : j / K < m := by rw [← hlen]; exact Nat.div_lt_of_lt_mul (by rw [Nat.mul_comm]; exact hj')
    obtain ⟨b', off', e, hc⟩ := hy.at_ (j / K) hd
    simp only [Option.some.injEq, Addr.mk.injEq, and_true] at e
    obtain ⟨rfl, rfl⟩ := e
    have e : off + j = off + j / K * K + j % K := by rw [Nat.add_assoc, Nat.div_add_mod']
    rw [addr_addR, e, ← hj]; exact hc (j % K) (Nat.mod_lt _ hK)
  · obtain ⟨p, _, rfl⟩ := List.mem_map.1 hu; exact h1c _ _
  · intro v' w' h1 h2 h3
    exact hK' _ _ (h v' w' (ownE_apps hK (by rw [hlen]; exact h1) hown.1 hvx) h2 (fun e => (h3.1 e).1))
theorem ownE_one {w : World} {base : Nat} {T : TypeId} {x : α} (us : List Value) (hul : us.length = K) (hux : ∀ q, q < K → us[q]? = some (cells x q)) (h : base ≤ w.heap.size) : OwnE K cells (w.alloc (Obj.cells us.toArray T)) base T (.slice (some ⟨w.heap.size, 0, none⟩) 1 1) [x] := by
  refine ⟨⟨us, ?_, fun j hj q hq => ?_⟩⟩
  · have := World.ownsRow_lit (base := base) (e := T) (size := K) w us.toArray 1 h (by unfold maxLen; omega) (by simp [hul])
    simpa using this
  · obtain rfl : j = 0 := by simp at hj; omega
    rw [Nat.zero_mul, Nat.zero_add]; exact hux q hq

end

end Go.Proofs.YtemodlgmjgdjpaaGreatDoor

namespace Go.Proofs.YtemodlgmjgdjpaaGreatDoor
open Go

structure Wr where
  n : ByteArray
  r : Int
  q : List Int
  l : Bool
  d : ByteArray
instance : Inhabited Wr := ⟨⟨⟨#[]⟩, 0, [], false, ⟨#[]⟩⟩⟩
/-- The first k phases together. -/
def wrTot (rs : List Wr) : Nat → Nat
  | 0 => 0
  | k + 1 => wrTot rs k + (elAt rs k).q.length
theorem wrTot_mono (rs : List Wr) {k m : Nat} (h : k ≤ m) : wrTot rs k ≤ wrTot rs m := by
  induction m with
  | zero => obtain rfl : k = 0 := by omega
            exact Nat.le_refl _
  | succ m ih =>
    by_cases e : k = m + 1
    · rw [e]; exact Nat.le_refl _
    · exact Nat.le_trans (ih (by omega)) (Nat.le_add_right _ _)

end Go.Proofs.YtemodlgmjgdjpaaGreatDoor

namespace Go.Proofs.YtemodlgmjgdjpaaGreatDoor
open Go

/-- Texts alike. -/
def sEq (x y : ByteArray) : Bool := x.toList == y.toList
/-- The place of the first rule of a name; as many as there are, where there is none. -/
def wfK (rs : List Wr) (s : ByteArray) : Nat := ((List.range rs.length).find? fun i => sEq (elAt rs i).n s).getD rs.length
def wfI (rs : List Wr) (s : ByteArray) : Int := if wfK rs s < rs.length then (wfK rs s : Int) else -1
theorem wfK_here {rs : List Wr} {s : ByteArray} {k : Nat} (hk : k < rs.length) (h : sEq (elAt rs k).n s = true) (hb : ∀ j, j < k → sEq (elAt rs j).n s = false) : wfK rs s = k := by
  unfold wfK
  have : (List.range rs.length).find? (fun i => sEq (elAt rs i).n s) = some k := by
    rw [List.find?_range_eq_some]
    refine ⟨h, by simpa using hk, fun j hj => ?_⟩
    have := hb j hj
    simp [this]
  rw [this]; rfl
theorem wfK_none {rs : List Wr} {s : ByteArray} (hb : ∀ j, j < rs.length → sEq (elAt rs j).n s = false) : wfK rs s = rs.length := by
  unfold wfK
  have : (List.range rs.length).find? (fun i => sEq (elAt rs i).n s) = none := by
    rw [List.find?_eq_none]
    intro j hj
    have := hb j (by simpa using hj)
    simp [this]
  rw [this]; rfl
theorem wfK_le (rs : List Wr) (s : ByteArray) : wfK rs s ≤ rs.length := by
  unfold wfK
  cases e : (List.range rs.length).find? fun i => sEq (elAt rs i).n s with
  | none => simp
  | some k =>
    rw [List.find?_range_eq_some] at e
    have := List.mem_range.1 e.2.1
    simp; omega
/-- Whether a phase is among the quiet ones. -/
def qtB (q : List Int) (ph : Int) : Bool := decide (∃ i, i < q.length ∧ nth q i = ph)
theorem qtB_yes {q : List Int} {ph : Int} {i : Nat} (h : i < q.length) (e : nth q i = ph) : qtB q ph = true := decide_eq_true ⟨i, h, e⟩
theorem qtB_no {q : List Int} {ph : Int} (h : ∀ i, i < q.length → ¬ nth q i = ph) : qtB q ph = false := decide_eq_false (fun ⟨i, hi, e⟩ => h i hi e)
/-- Texts in their order. -/
def sLt (x y : ByteArray) : Bool := Op.bytesLess x.toList y.toList
/-- Whether what a rule needs is so. -/
def wrDB (rs : List Wr) (i : Nat) : Bool := sEq (elAt rs i).d ⟨#[]⟩ || (decide (wfK rs (elAt rs i).d < rs.length) && decide (¬ wfK rs (elAt rs i).d = i) && sEq (elAt rs (wfK rs (elAt rs i).d)).d ⟨#[]⟩)
/-- Whether a rule by itself, and behind the one ahead, is so. -/
def wrSB (rs : List Wr) (i : Nat) : Bool := nameB (elAt rs i).n && (decide (i = 0) || sLt (elAt rs (i - 1)).n (elAt rs i).n) && inB (elAt rs i).r 1 3 && riseB (elAt rs i).q && allB (elAt rs i).q 0 9
def wrAtB (rs : List Wr) (i : Nat) : Bool := wrSB rs i && wrDB rs i
/-- Whether rules are so. -/
def wrB (rs : List Wr) : Bool := decide (∀ i, i < rs.length → wrAtB rs i = true) && decide (rs.length ≤ 30)
theorem wrB_not {rs : List Wr} {i : Nat} (hi : i < rs.length) (h : wrAtB rs i = false) : wrB rs = false := by
  have : ¬ ∀ i, i < rs.length → wrAtB rs i = true := fun k => by have := k i hi; rw [h] at this; cases this
  simp [wrB, this]
theorem wrB_all {rs : List Wr} (h : ∀ i, i < rs.length → wrAtB rs i = true) : wrB rs = decide (rs.length ≤ 30) := by
  have e : decide (∀ i, i < rs.length → wrAtB rs i = true) = true := decide_eq_true h
  unfold wrB; rw [e, Bool.true_and]
/-- The greatest rank of the first k names. -/
def loK (rs : List Wr) (ts : List ByteArray) : Nat → Int
  | 0 => 0
  | k + 1 => if wfK rs (elAt ts k) < rs.length then max (loK rs ts k) (elAt rs (wfK rs (elAt ts k))).r else loK rs ts k
def loB (rs : List Wr) (ts : List ByteArray) : Bool := wrB rs && decide (ts.length ≤ 30)
def loR (rs : List Wr) (ts : List ByteArray) : Int := if loB rs ts = true then loK rs ts ts.length else 0
/-- The names of the first k rules that are quiet in a phase. -/
def inhK (rs : List Wr) (ph : Int) : Nat → List ByteArray
  | 0 => []
  | k + 1 => if qtB (elAt rs k).q ph = true then inhK rs ph k ++ [(elAt rs k).n] else inhK rs ph k
theorem inhK_len (rs : List Wr) (ph : Int) : ∀ k, (inhK rs ph k).length ≤ k
  | 0 => Nat.le_refl _
  | k + 1 => by
    have := inhK_len rs ph k
    unfold inhK
    split
    · simp; omega
    · omega
def inhB (rs : List Wr) (ph : Int) : Bool := wrB rs && inB ph 0 9
def inhL (rs : List Wr) (ph : Int) : List ByteArray := if inhB rs ph = true then inhK rs ph rs.length else []
theorem wrB_facts {rs : List Wr} (h : wrB rs = true) : (∀ i, i < rs.length → wrAtB rs i = true) ∧ rs.length ≤ 30 := by
  simp only [wrB, Bool.and_eq_true, decide_eq_true_eq] at h
  exact h
theorem wrR_facts {rs : List Wr} (h : wrB rs = true) {i : Nat} (hi : i < rs.length) : 1 ≤ (elAt rs i).r ∧ (elAt rs i).r ≤ 3 := by
  have := (wrB_facts h).1 i hi
  unfold wrAtB wrSB at this
  simp only [Bool.and_eq_true] at this
  exact in_facts this.1.1.1.2
theorem loK_bd {rs : List Wr} (h : wrB rs = true) (ts : List ByteArray) : ∀ k, 0 ≤ loK rs ts k ∧ loK rs ts k ≤ 3
  | 0 => by simp [loK]
  | k + 1 => by
    have ih := loK_bd h ts k
    unfold loK
    split
    · rename_i hk
      have := wrR_facts h hk
      omega
    · exact ih
theorem rise_ge {q : List Int} (h : riseB q = true) (h0 : allB q 0 9 = true) : ∀ i, i < q.length → (i : Int) ≤ nth q i
  | 0, hi => by
    have := in_facts (of_decide_eq_true h0 0 hi)
    omega
  | i + 1, hi => by
    have ih := rise_ge h h0 i (by omega)
    have := of_decide_eq_true h i (by omega)
    omega
theorem wrQ_len {rs : List Wr} (h : wrB rs = true) {i : Nat} (hi : i < rs.length) : (elAt rs i).q.length ≤ 10 := by
  have := (wrB_facts h).1 i hi
  unfold wrAtB wrSB at this
  simp only [Bool.and_eq_true] at this
  have h1 := this.1.1.2
  have h2 := this.1.2
  rcases Nat.lt_or_ge 10 (elAt rs i).q.length with c | c
  · have a := rise_ge h1 h2 10 c
    have b := in_facts (of_decide_eq_true h2 10 c)
    omega
  · exact c
theorem inhL_small (rs : List Wr) (ph : Int) : (inhL rs ph).length ≤ 1048576 := by
  unfold inhL
  split
  · rename_i h
    simp only [inhB, Bool.and_eq_true] at h
    have := (wrB_facts h.1).2
    have := inhK_len rs ph rs.length
    omega
  · simp
/-- Whether a name is among names. -/
def hasB (ts : List ByteArray) (s : ByteArray) : Bool := decide (∃ i, i < ts.length ∧ sEq (elAt ts i) s = true)
theorem hasB_yes {ts : List ByteArray} {s : ByteArray} {i : Nat} (h : i < ts.length) (e : sEq (elAt ts i) s = true) : hasB ts s = true := decide_eq_true ⟨i, h, e⟩
theorem hasB_no {ts : List ByteArray} {s : ByteArray} (h : ∀ i, i < ts.length → sEq (elAt ts i) s = false) : hasB ts s = false := decide_eq_false (fun ⟨i, hi, e⟩ => by rw [h i hi] at e; cases e)
/-- Whether a name of a list is a rule's, and behind the one ahead. -/
def nmAt (rs : List Wr) (ts : List ByteArray) (i : Nat) : Bool := decide (wfK rs (elAt ts i) < rs.length) && (decide (i = 0) || sLt (elAt ts (i - 1)) (elAt ts i))
/-- Whether a list is of ascending names of rules. -/
def nmB (rs : List Wr) (ts : List ByteArray) : Bool := decide (∀ i, i < ts.length → nmAt rs ts i = true)
theorem nmB_not {rs : List Wr} {ts : List ByteArray} {i : Nat} (hi : i < ts.length) (h : nmAt rs ts i = false) : nmB rs ts = false := decide_eq_false (fun k => by have := k i hi; rw [h] at this; cases this)
theorem nmB_all {rs : List Wr} {ts : List ByteArray} (h : ∀ i, i < ts.length → nmAt rs ts i = true) : nmB rs ts = true := decide_eq_true h

end Go.Proofs.YtemodlgmjgdjpaaGreatDoor
