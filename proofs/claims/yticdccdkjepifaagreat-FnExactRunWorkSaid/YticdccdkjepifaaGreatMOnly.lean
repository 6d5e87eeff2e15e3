/-
  Worlds in which only blocks from one number up to another have turned; what is read, owned or boxed elsewhere stays. No condition.
  A whole struct or array that lies in a block of its own, loaded and stored in one step of a walk. No condition.
  A block that another row's growth leaves as it was. No condition.
  Worlds in which only blocks of a set have turned; what is owned or boxed elsewhere stays. No condition.
  Blocks of a type lie apart from lists of another one. No condition.
  The law's copy and comparison of a Clock: of one value it says so. No condition.
  The law's text of a mark: a number's decimals, one text for each number. At numbers of 1 to 1000000000; nothing that was there is written.
  A region that draws its order, whose own operations only read and whose callees answer one plain value and make memory only: one walk, in the order of the text, serves every order. The class of worlds: those in which nothing that was there has turned. No condition.
-/
import Derived.Test.YticdccdkjepifaaGreatMBlk
import Derived.Test.YticdccdkjepifaaGreatMLowPure
import Derived.Test.YticdccdkjepifaaGreatMBase
import Derived.Test.YticdccdkjepifaaGreatChecked
import Derived.Laws.Cells
import Derived.Laws.IdiomCopy
import Derived.Laws.IdiomStrings
import Derived.Laws.Concat
import Derived.Deep.Quiet

namespace Go.Proofs.YticdccdkjepifaaGreat
open Go.RowKit

/-- Only blocks from lo on, and below hi, have turned. -/
structure Only (lo hi : Nat) (w w' : World) : Prop where
  os : w'.os = w.os
  tape : w'.tape = w.tape
  output : w'.output = w.output
  size : w.heap.size ≤ w'.heap.size
  block : ∀ k, k < w.heap.size → (k < lo ∨ hi ≤ k) → w'.heap[k]? = w.heap[k]?
theorem Only.refl (lo hi : Nat) (w : World) : Only lo hi w w := ⟨rfl, rfl, rfl, Nat.le_refl _, fun _ _ _ => rfl⟩
theorem Only.trans {lo hi : Nat} {a b c : World} (h : Only lo hi a b) (k : Only lo hi b c) : Only lo hi a c :=
  ⟨k.os.trans h.os, k.tape.trans h.tape, k.output.trans h.output, Nat.le_trans h.size k.size, fun i hi he => (k.block i (Nat.lt_of_lt_of_le hi h.size) he).trans (h.block i hi he)⟩
theorem Only.of_row {lo hi : Nat} {w w' : World} {row : Option Nat} (h : w.grownBy w' row) (hr : ∀ g, row = some g → lo ≤ g ∧ g < hi) : Only lo hi w w' :=
  ⟨h.os, h.tape, h.output, h.size, fun k hk he => h.block k hk (fun e => by have := hr k e.symm; omega)⟩
theorem Only.of_below {lo hi : Nat} {w w' : World} (h : Below w.heap.size w w') : Only lo hi w w' :=
  ⟨h.os, h.tape, h.output, h.size, fun k hk _ => h.block k hk⟩
theorem Only.mono {lo hi lo' hi' : Nat} {w w' : World} (h : Only lo hi w w') (h1 : lo' ≤ lo) (h2 : hi ≤ hi') : Only lo' hi' w w' :=
  ⟨h.os, h.tape, h.output, h.size, fun k hk he => h.block k hk (by omega)⟩
theorem Only.below {lo hi B : Nat} {w w' : World} (h : Only lo hi w w') (hb : B ≤ lo) (hs : B ≤ w.heap.size) : Below B w w' :=
  ⟨h.os, h.tape, h.output, h.size, fun k hk => h.block k (by omega) (by omega)⟩
theorem below_only {B lo hi : Nat} {a w w' : World} (h : Below B a w) (k : Only lo hi w w') (hb : B ≤ lo) (hs : B ≤ a.heap.size) : Below B a w' :=
  h.trans (k.below hb (Nat.le_trans hs h.size))
theorem Blk.only {lo hi : Nat} {w w' : World} {B : Nat} {vs : List Value} (h : Blk w B vs) (k : Only lo hi w w') (ho : B < lo ∨ hi ≤ B) : Blk w' B vs := by
  have hb := k.block B h.lt ho
  refine ⟨fun i hi => (World.cell?_of_block (a := ⟨B, i, none⟩) hb).trans (h.c i hi), fun i hi => ?_, Nat.lt_of_lt_of_le h.lt k.size⟩
  have h2 := h.f i hi
  unfold World.frozen? at h2 ⊢
  simp only at h2 ⊢
  rw [hb]; exact h2
theorem OwnE.only {α : Type} [Inhabited α] {K : Nat} {cells : α → Nat → Value} {lo hi : Nat} {w w' : World} {base : Nat} {T : TypeId} {v : Value} {ps : List α} (h : OwnE K cells w base T v ps) (k : Only lo hi w w') (hne : ∀ g, v.ownBlock = some g → g < lo ∨ hi ≤ g) : OwnE K cells w' base T v ps := by
  obtain ⟨xs, ⟨h1, h2⟩, hx⟩ := h.own
  refine ⟨⟨xs, ⟨h1, ?_⟩, hx⟩⟩
  rcases h2 with h2 | ⟨g, cap, cur, rfl, b, c, d⟩
  · exact .inl h2
  · refine .inr ⟨g, cap, cur, rfl, b, ?_, d⟩
    have hg : g < w.heap.size := by
      rcases Nat.lt_or_ge g w.heap.size with hlt | hge
      · exact hlt
      · rw [Array.getElem?_eq_none hge] at c; cases c
    rw [k.block g hg (hne g rfl)]; exact c
theorem OwnI.only {lo hi : Nat} {w w' : World} {base : Nat} {v : Value} {zs : List Int} (h : OwnI w base v zs) (k : Only lo hi w w') (hne : ∀ g, v.ownBlock = some g → g < lo ∨ hi ≤ g) : OwnI w' base v zs := by
  obtain ⟨xs, ⟨h1, h2⟩, hx⟩ := h.own
  refine ⟨⟨xs, ⟨h1, ?_⟩, hx⟩, h.fit⟩
  rcases h2 with h2 | ⟨g, cap, cur, rfl, b, c, d⟩
  · exact .inl h2
  · refine .inr ⟨g, cap, cur, rfl, b, ?_, d⟩
    have hg : g < w.heap.size := by
      rcases Nat.lt_or_ge g w.heap.size with hlt | hge
      · exact hlt
      · rw [Array.getElem?_eq_none hge] at c; cases c
    rw [k.block g hg (hne g rfl)]; exact c
theorem ownE_nil {α : Type} [Inhabited α] {K : Nat} {cells : α → Nat → Value} (w : World) (base : Nat) (T : TypeId) : OwnE K cells w base T (.slice none 0 0) ([] : List α) :=
  ⟨⟨[], by simpa using World.ownsRow_nil w base T K, fun j hj => by simp at hj⟩⟩
theorem ownI_nil (w : World) (base : Nat) : OwnI w base (.slice none 0 0) [] :=
  ⟨⟨[], World.ownsRow_nil w base _ 1, fun j hj => by simp at hj⟩, fun i => by simp [nth]⟩
theorem fresh_own {g l c : Nat} {i : Nat} (h : (Value.slice (some ⟨g, 0, none⟩) l c).ownBlock = some i) : i = g := (Option.some.inj h).symm


end Go.Proofs.YticdccdkjepifaaGreat

namespace Go.Proofs.YticdccdkjepifaaGreat
open Go.RowKit

theorem addr0 (B j : Nat) : (⟨B, 0, none⟩ : Addr).add j = ⟨B, j, none⟩ := by unfold Addr.add; simp; exact fun h => h.symm
theorem run_loadVar {t : TypeId} {w : World} {B : Nat} {vs : List Value} (hA : ∀ w, (isAgg t).run Tryz.prog w = .ok true w) (hZ : ∀ w, (Go.sizeOf t).run Tryz.prog w = .ok vs.length w) (hb : Blk w B vs) :
    (loadVar t ⟨B, 0, none⟩).run Tryz.prog w = .ok (.agg vs.toArray) w := by
  have hl := run_loadCells_list (P := Tryz.prog) (w := w) ⟨B, 0, none⟩ vs (fun j v hj => by
    obtain ⟨h, e⟩ := List.getElem?_eq_some_iff.1 hj
    rw [addr0, ← e]; exact hb.c j h)
  unfold loadVar
  simp [hA, hZ, hl]
theorem Blk.setCells {w : World} {B : Nat} {us vs : List Value} (h : Blk w B us) (hl : us.length = vs.length) : Blk (w.setCells B 0 vs) B vs ∧ w.grownBy (w.setCells B 0 vs) (some B) := by
  have gr : ∀ (vs : List Value) (o : Nat) (w : World), w.grownBy (w.setCells B o vs) (some B) := by
    intro vs
    induction vs with
    | nil => intro o w; exact ⟨rfl, rfl, rfl, Nat.le_refl _, fun _ _ _ => rfl⟩
    | cons v r ih =>
      intro o w
      have h1 := ih (o + 1) (w.setCell ⟨B, o, none⟩ v)
      refine ⟨h1.os, h1.tape, h1.output, Nat.le_trans (by simp [World.setCell]) h1.size, fun k hk hne => ?_⟩
      have hkB : k ≠ B := fun e => hne (by rw [e])
      exact (h1.block k (by simpa [World.setCell] using hk) hne).trans (Below.heap_setCell _ _ _ _ hkB)
  refine ⟨⟨fun i hi => ?_, fun i hi => ?_, Nat.lt_of_lt_of_le h.lt (gr vs 0 w).size⟩, gr vs 0 w⟩
  · have := World.cell?_setCells_in B vs 0 w (fun j hj => by rw [Nat.zero_add, h.c j (by omega)]; rfl) i hi
    simpa using this
  · rw [World.frozen?_setCells]; exact h.f i (by omega)
theorem run_storeVar {t : TypeId} {w : World} {B : Nat} {us vs : List Value} (hZ : ∀ w, (Go.sizeOf t).run Tryz.prog w = .ok vs.length w) (hl : us.length = vs.length) (h1 : ∀ v ∈ vs, v.oneCell' = true) (hb : Blk w B us) :
    (storeVar t ⟨B, 0, none⟩ (.agg vs.toArray)).run Tryz.prog w = .ok () (w.setCells B 0 vs) := by
  have hs := run_storeCells_cells (P := Tryz.prog) B 0 vs 0 w (fun j hj => by rw [show 0 + 0 + j = j by omega, hb.c j (by omega)]; rfl) (fun j hj => by rw [show 0 + 0 + j = j by omega]; exact hb.f j (by omega)) h1
  unfold storeVar
  simp [hZ, Value.cells, hs]

theorem at_loadAgg {ops : Array Oper} {rest : List Oper} {d : Option Tmp} {t ty : TypeId} {s : Operand} {pos : String} {af : Array Edge} {a : Act} {Q : Exit → Act → World → Prop} {w : World} {B : Nat} {vs : List Value}
    (hA : ∀ w, (isAgg t).run Tryz.prog w = .ok true w) (hZ : ∀ w, (Go.sizeOf t).run Tryz.prog w = .ok vs.length w) (hs : a.eval s = .pointer (some ⟨B, 0, none⟩)) (hb : Blk w B vs)
    (hK : wpList Tryz.prog ops Q rest (a.put d (.agg vs.toArray)) w) : wpList Tryz.prog ops Q (⟨d, .load t s, ty, pos, af, none⟩ :: rest) a w := by
  refine wpList_plain rfl fun K hK' => ?_
  have hr := run_loadVar hA hZ hb
  unfold Oper.wp
  simp [execOp, hs, Instr.loadAt, Instr.sureAddr, hr, Result.andThen]
  exact hK' _ _ hK
theorem at_storeAgg {ops : Array Oper} {rest : List Oper} {t ty : TypeId} {s x : Operand} {pos : String} {af : Array Edge} {a : Act} {Q : Exit → Act → World → Prop} {w : World} {B : Nat} {us vs : List Value}
    (hZ : ∀ w, (Go.sizeOf t).run Tryz.prog w = .ok vs.length w) (hs : a.eval s = .pointer (some ⟨B, 0, none⟩)) (hx : a.eval x = .agg vs.toArray) (hb : Blk w B us) (hl : us.length = vs.length) (h1 : ∀ v ∈ vs, v.oneCell' = true)
    (hK : ∀ w2, Blk w2 B vs → w.grownBy w2 (some B) → wpList Tryz.prog ops Q rest a w2) : wpList Tryz.prog ops Q (⟨none, .store t s x, ty, pos, af, none⟩ :: rest) a w := by
  refine wpList_plain rfl fun K hK' => ?_
  have hr := run_storeVar hZ hl h1 hb
  have h2 := hb.setCells hl
  unfold Oper.wp
  simp [execOp, hs, hx, Instr.storeAt, Instr.sureAddr, hr, Result.andThen]
  exact hK' _ _ (hK _ h2.1 h2.2)

/-- A result that stands in such a block. -/
theorem results_cell {fn : Func} {p : Tmp} {t : TypeId} {tmps : Array Value} {w : World} {B : Nat} {vs : List Value} (h : fn.results = #[.cell p t]) (hA : ∀ w, (isAgg t).run Tryz.prog w = .ok true w) (hZ : ∀ w, (Go.sizeOf t).run Tryz.prog w = .ok vs.length w)
    (hp : tmps.getD p undef = .pointer (some ⟨B, 0, none⟩)) (hb : Blk w B vs) : (results fn tmps).run Tryz.prog w = .ok (.agg vs.toArray) w := by
  have hr := run_loadVar hA hZ hb
  have hp' : tmps[p]?.getD undef = .pointer (some ⟨B, 0, none⟩) := by simpa using hp
  simp only [results, h]
  simp [hp', asAddr, hr]

end Go.Proofs.YticdccdkjepifaaGreat

namespace Go.Proofs.YticdccdkjepifaaGreat
open Go.RowKit

theorem Blk.apart {w w' : World} {B : Nat} {vs : List Value} {row : Option Nat} (h : Blk w B vs) (k : w.grownBy w' row) (hne : some B ≠ row) : Blk w' B vs := by
  have hb := k.block B h.lt hne
  refine ⟨fun i hi => (World.cell?_of_block (a := ⟨B, i, none⟩) hb).trans (h.c i hi), fun i hi => ?_, Nat.lt_of_lt_of_le h.lt k.size⟩
  have h2 := h.f i hi
  unfold World.frozen? at h2 ⊢
  simp only at h2 ⊢
  rw [hb]; exact h2

/-- A result that stands in a block, and one behind it. -/
theorem results_cellB {fn : Func} {p q : Tmp} {t : TypeId} {tmps : Array Value} {w : World} {B : Nat} {vs : List Value} {x : Value} (h : fn.results = #[.cell p t, .tmp q]) (hA : ∀ w, (isAgg t).run Tryz.prog w = .ok true w) (hZ : ∀ w, (Go.sizeOf t).run Tryz.prog w = .ok vs.length w)
    (hp : tmps.getD p undef = .pointer (some ⟨B, 0, none⟩)) (hb : Blk w B vs) (hq : tmps.getD q undef = x) : (results fn tmps).run Tryz.prog w = .ok (.tuple #[.agg vs.toArray, x]) w := by
  have hr := run_loadVar hA hZ hb
  have hp' : tmps[p]?.getD undef = .pointer (some ⟨B, 0, none⟩) := by simpa using hp
  have hq' : tmps[q]?.getD undef = x := by simpa using hq
  simp only [results, h]
  simp [hp', hq', asAddr, hr]

end Go.Proofs.YticdccdkjepifaaGreat

namespace Go.Proofs.YticdccdkjepifaaGreat
open Go.RowKit

/-- Only blocks of the set have turned. -/
structure Aps (S : Nat → Prop) (w w' : World) : Prop where
  os : w'.os = w.os
  tape : w'.tape = w.tape
  output : w'.output = w.output
  size : w.heap.size ≤ w'.heap.size
  block : ∀ k, k < w.heap.size → ¬ S k → w'.heap[k]? = w.heap[k]?
theorem Aps.refl (S : Nat → Prop) (w : World) : Aps S w w := ⟨rfl, rfl, rfl, Nat.le_refl _, fun _ _ _ => rfl⟩
theorem Aps.trans {S : Nat → Prop} {a b c : World} (h : Aps S a b) (k : Aps S b c) : Aps S a c :=
  ⟨k.os.trans h.os, k.tape.trans h.tape, k.output.trans h.output, Nat.le_trans h.size k.size, fun i hi he => (k.block i (Nat.lt_of_lt_of_le hi h.size) he).trans (h.block i hi he)⟩
theorem Aps.of_row {S : Nat → Prop} {w w' : World} {row : Option Nat} (h : w.grownBy w' row) (hr : ∀ g, row = some g → S g) : Aps S w w' :=
  ⟨h.os, h.tape, h.output, h.size, fun k hk he => h.block k hk (fun e => he (hr k e.symm))⟩
theorem Aps.of_below {S : Nat → Prop} {w w' : World} (h : Below w.heap.size w w') : Aps S w w' :=
  ⟨h.os, h.tape, h.output, h.size, fun k hk _ => h.block k hk⟩
theorem Aps.mono {S S' : Nat → Prop} {w w' : World} (h : Aps S w w') (h1 : ∀ k, S k → S' k) : Aps S' w w' :=
  ⟨h.os, h.tape, h.output, h.size, fun k hk he => h.block k hk (fun e => he (h1 k e))⟩
theorem Aps.below {S : Nat → Prop} {B : Nat} {w w' : World} (h : Aps S w w') (hb : ∀ k, S k → B ≤ k) (hs : B ≤ w.heap.size) : Below B w w' :=
  ⟨h.os, h.tape, h.output, h.size, fun k hk => h.block k (by omega) (fun e => by have := hb k e; omega)⟩
theorem below_aps {S : Nat → Prop} {B : Nat} {a w w' : World} (h : Below B a w) (k : Aps S w w') (hb : ∀ k, S k → B ≤ k) (hs : B ≤ a.heap.size) : Below B a w' :=
  h.trans (k.below hb (Nat.le_trans hs h.size))
theorem Aps.setS {S : Nat → Prop} {a b : World} (h : Aps S a b) {p : Addr} (hp : S p.block) (v : Value) : Aps S a (b.setCell p v) :=
  h.trans ⟨rfl, rfl, rfl, by simp [World.setCell], fun k _ he => Below.heap_setCell _ _ _ _ (fun e => he (e ▸ hp))⟩
theorem Aps.grow {S : Nat → Prop} {a b c : World} {row : Option Nat} (h : Aps S a b) (gr : b.grownBy c row) (hr : ∀ g, row = some g → S g) : Aps S a c := h.trans (Aps.of_row gr hr)
theorem Aps.alloc {S : Nat → Prop} {a b : World} (h : Aps S a b) (o : Obj) : Aps S a (b.alloc o) := h.trans (Aps.of_below (bel1 _))
theorem Aps.growN {S : Nat → Prop} {a b c : World} {row : Option Nat} (h : Aps S a b) (gr : b.grownBy c row) (hr : ∀ g, row = some g → S g ∨ a.heap.size ≤ g) : Aps S a c :=
  ⟨gr.os.trans h.os, gr.tape.trans h.tape, gr.output.trans h.output, Nat.le_trans h.size gr.size, fun k hk he => (gr.block k (Nat.lt_of_lt_of_le hk h.size) (fun e => by rcases hr k e.symm with x | x; exact he x; omega)).trans (h.block k hk he)⟩
theorem Blk.aps {S : Nat → Prop} {w w' : World} {B : Nat} {vs : List Value} (h : Blk w B vs) (k : Aps S w w') (ho : ¬ S B) : Blk w' B vs := by
  have hb := k.block B h.lt ho
  refine ⟨fun i hi => (World.cell?_of_block (a := ⟨B, i, none⟩) hb).trans (h.c i hi), fun i hi => ?_, Nat.lt_of_lt_of_le h.lt k.size⟩
  have h2 := h.f i hi
  unfold World.frozen? at h2 ⊢
  simp only at h2 ⊢
  rw [hb]; exact h2
theorem OwnE.aps {α : Type} [Inhabited α] {K : Nat} {cells : α → Nat → Value} {S : Nat → Prop} {w w' : World} {base : Nat} {T : TypeId} {v : Value} {ps : List α} (h : OwnE K cells w base T v ps) (k : Aps S w w') (hne : ∀ g, v.ownBlock = some g → ¬ S g) : OwnE K cells w' base T v ps := by
  obtain ⟨xs, ⟨h1, h2⟩, hx⟩ := h.own
  refine ⟨⟨xs, ⟨h1, ?_⟩, hx⟩⟩
  rcases h2 with h2 | ⟨g, cap, cur, rfl, b, c, d⟩
  · exact .inl h2
  · refine .inr ⟨g, cap, cur, rfl, b, ?_, d⟩
    have hg : g < w.heap.size := by
      rcases Nat.lt_or_ge g w.heap.size with hlt | hge
      · exact hlt
      · rw [Array.getElem?_eq_none hge] at c; cases c
    rw [k.block g hg (hne g rfl)]; exact c
/-- A list that was written out, in a block of its own. -/
theorem ownE_lit {α : Type} [Inhabited α] {K : Nat} {cells : α → Nat → Value} {w : World} {base : Nat} {T : TypeId} {ps : List α} {vs : List Value} {n : Nat} (hb : base ≤ w.heap.size) (hn : ps.length = n) (hm : n ≤ 1000) (hl : vs.length = n * K)
    (hc : ∀ j, j < n → ∀ q, q < K → vs[j * K + q]? = some (cells (elAt ps j) q)) : OwnE K cells (w.alloc (Obj.cells vs.toArray T)) base T (.slice (some ⟨w.heap.size, 0, none⟩) n n) ps := by
  subst hn
  refine ⟨⟨vs, ⟨hl, .inr ⟨_, _, vs.toArray, rfl, hb, ?_, Nat.le_refl _, by unfold maxLen; omega, by simpa using hl, by simp [← hl]⟩⟩, hc⟩⟩
  show (w.heap.push _)[w.heap.size]? = _
  simp

end Go.Proofs.YticdccdkjepifaaGreat

namespace Go.Proofs.YticdccdkjepifaaGreat
open Go Go.RowKit

/-- A block of a type; it lies apart from lists of another one. -/
def TyB (W : World) (S : Nat) (T : TypeId) : Prop := ∃ xs fz, W.heap[S]? = some (Obj.cells xs T fz)
theorem tyB_below {W W' : World} {S : Nat} {T : TypeId} (h : TyB W S T) (hs : S < W.heap.size) (b : Below W.heap.size W W') : TyB W' S T := by
  obtain ⟨xs, fz, e⟩ := h; exact ⟨xs, fz, (b.block S hs).trans e⟩
theorem own_neT {α : Type} [Inhabited α] {K : Nat} {cells : α → Nat → Value} {W : World} {base S : Nat} {T T' : TypeId} {v : Value} {ps : List α} (h : OwnE K cells W base T' v ps) (hS : TyB W S T) (hT : T ≠ T') : v.ownBlock ≠ some S := by
  intro hg
  obtain ⟨zs, fz, e⟩ := hS
  obtain ⟨xs, ho, _⟩ := h.own
  rcases ho.2 with ⟨q, _⟩ | ⟨g1, c1, cur1, rfl, _, hb1, _⟩
  · rw [q] at hg; simp [Value.ownBlock] at hg
  have e1 : g1 = S := Option.some.inj hg
  rw [e1, e] at hb1
  simp only [Option.some.injEq, Obj.cells.injEq] at hb1
  exact hT hb1.2.1

end Go.Proofs.YticdccdkjepifaaGreat

namespace Go.Proofs.YticdccdkjepifaaGreat
open Go.RowKit

/-- What a Clock holds. -/
structure Ck where
  a0 : Int
  a1 : Int
  a2 : Int
instance : Inhabited Ck := ⟨⟨0, 0, 0⟩⟩
/-- Its cells. -/
def ckC (m : Ck) : Nat → Value
  | 0 => .int .i64 m.a0
  | 1 => .int .i64 m.a1
  | _ => .int .i64 m.a2
def ckAlike (m n : Ck) : Prop := m.a0 = n.a0 ∧ m.a1 = n.a1 ∧ m.a2 = n.a2
theorem ckAlike_refl (m : Ck) : ckAlike m m := ⟨rfl, rfl, rfl⟩
theorem ckAlike.symm {m n : Ck} (h : ckAlike m n) : ckAlike n m := ⟨h.1.symm, h.2.1.symm, h.2.2.symm⟩
theorem ckAlike.trans {m n l : Ck} (h : ckAlike m n) (g : ckAlike n l) : ckAlike m l := ⟨h.1.trans g.1, h.2.1.trans g.2.1, h.2.2.trans g.2.2⟩

set_option maxHeartbeats 1000000 in
theorem toClock_any (a0 : Int) (a1 : Int) (a2 : Int) (w : World) :
    Calls Tryz.prog 27 #[.agg #[.int .i64 a0, .int .i64 a1, .int .i64 a2]] w fun e w' => e = .returned (.agg #[.int .i64 a0, .int .i64 a1, .int .i64 a2]) ∧ Below w.heap.size w w' := by
  go_enter Tryz.func27, Tryz.ntmps27
  go_wp2
  refine bodyPost_ret (v := .agg #[.int .i64 a0, .int .i64 a1, .int .i64 a2]) (by simp [results, Tryz.results27, go_sem]) rfl ⟨rfl, ?_⟩
  repeat (first | exact bel3 _ _ _ | refine Below.setCell ?_ (by simp; try omega) _)

set_option maxHeartbeats 1000000 in
theorem eqClock_alike (a0 : Int) (a1 : Int) (a2 : Int) (b0 : Int) (b1 : Int) (b2 : Int) (w : World) (h : ckAlike ⟨a0, a1, a2⟩ ⟨b0, b1, b2⟩) :
    Calls Tryz.prog 36 #[.agg #[.int .i64 a0, .int .i64 a1, .int .i64 a2], .agg #[.int .i64 b0, .int .i64 b1, .int .i64 b2]] w fun e w' => e = .returned (.bool true) ∧ Below w.heap.size w w' := by
  obtain ⟨h0, h1, h2⟩ := h
  have h0 : a0 = b0 := h0
  subst h0
  have h1 : a1 = b1 := h1
  subst h1
  have h2 : a2 = b2 := h2
  subst h2
  go_enter Tryz.func36, Tryz.ntmps36
  go_wp2_with fail
  go_ret
  exact ⟨rfl, by simpa using bel2 _ _⟩

end Go.Proofs.YticdccdkjepifaaGreat

namespace Go.Proofs.YticdccdkjepifaaGreat
open Go.RowKit

/-- The decimals of a number ahead of a text. -/
def digs : Nat → Int → ByteArray → ByteArray
  | 0, _, out => out
  | f + 1, k, out => if 0 < k then digs f (k / 10) ((⟨#[UInt8.ofNat (48 + k % 10).toNat]⟩ : ByteArray) ++ out) else out
theorem digs_end (f : Nat) {k : Int} (h : ¬ 0 < k) (out : ByteArray) : digs f k out = out := by
  cases f with
  | zero => rfl
  | succ f => simp [digs, h]
theorem digs_more {f : Nat} {k : Int} (h : 0 < k) (hf : k ≤ f) (out : ByteArray) : ∃ g : Nat, k / 10 ≤ g ∧ digs f k out = digs g (k / 10) ((⟨#[UInt8.ofNat (48 + k % 10).toNat]⟩ : ByteArray) ++ out) := by
  cases f with
  | zero => exfalso; simp at hf; omega
  | succ f => exact ⟨f, by simp at hf; omega, by simp [digs, h]⟩
/-- The text of a mark. -/
def mkT (k : Int) : ByteArray := (⟨#[109]⟩ : ByteArray) ++ digs k.toNat k ⟨#[]⟩

theorem run_one_byte (w : World) (n : Int) (h : 0 ≤ n) (h2 : n ≤ 255) :
    (convert 113 9 (.slice (some ⟨w.heap.size, 0, none⟩) 1 1)).run Tryz.prog (w.alloc (Obj.cells #[.int .u8 n] 5)) = .ok (.string ⟨#[UInt8.ofNat n.toNat]⟩) (w.alloc (Obj.cells #[.int .u8 n] 5)) := by
  have e : ((UInt8.ofNat n.toNat).toNat : Int) = n := by
    rw [UInt8.toNat_ofNat']
    omega
  have := run_convert_bytes_back (P := Tryz.prog) (w.alloc (Obj.cells #[.int .u8 n] 5)) 113 9 5 ⟨w.heap.size, 0, none⟩ 1 [UInt8.ofNat n.toNat] Tryz.underlying113 Tryz.underlying5 Tryz.underlying9 (fun j hj => by
    obtain rfl : j = 0 := by simp at hj; omega
    have hc : (w.alloc (Obj.cells #[.int .u8 n] 5)).cell? ⟨w.heap.size, 0, none⟩ = some (.int .u8 n) := by simp [go_sem]
    show (w.alloc (Obj.cells #[.int .u8 n] 5)).cell? ⟨w.heap.size, 0 + 0, none⟩ = _
    rw [Nat.add_zero, hc]
    simp only [List.getElem_cons_zero, e])
  simpa using this

set_option maxRecDepth 20000 in
set_option maxHeartbeats 2000000 in
theorem markText_any (k : Int) (w : World) (h1 : 1 ≤ k) (h2 : k ≤ 1000000000) :
    Calls Tryz.prog 41 #[.int .i64 k] w fun e w' => e = .returned (.string (mkT k)) ∧ Below w.heap.size w w' := by
  go_enter Tryz.func41, Tryz.ntmps41
  go_wp2_with fail
  go_loopw [0, 3] (fun kv ov wr => ∃ (q : Int) (out : ByteArray) (f : Nat), kv = .int .i64 q ∧ ov = .string out ∧ (0 ≤ q ∧ q ≤ k) ∧ ((out.size : Int) + q ≤ k) ∧ Hid (q ≤ (f : Int)) ∧ Hid (digs f q out = digs k.toNat k ⟨#[]⟩) ∧ Below w.heap.size w wr) (fun kv _ _ => (intOf kv).toNat)
  case atStart => exact ⟨k, ⟨#[]⟩, k.toNat, rfl, rfl, by omega, by show (0 : Int) + k ≤ k; omega, hide (by omega), hide rfl, Below.refl _ _⟩
  case round =>
    obtain ⟨q, out, f, rfl, rfl, hq, hsz, HF, HD, hbel⟩ := hrel
    by_cases h0 : 0 < q
    · obtain ⟨f', hf', e'⟩ := digs_more h0 (unhide HF) out
      have HF' := hide hf'
      have HD' := hide (e'.symm.trans (unhide HD))
      have hrun := run_one_byte wr (48 + q % 10) (by omega) (by omega)
      have HB := hide (hbel.alloc hbel.size (Obj.cells #[.int .u8 (48 + q % 10)] 5))
      clear hf' e' hbel
      go_wp2_with fail
      go_roundw
      case rel =>
        refine ⟨q / 10, _, f', rfl, rfl, by omega, ?_, HF', HD', unhide HB⟩
        rw [ByteArray.size_append]
        show (((1 : Nat) + out.size : Nat) : Int) + q / 10 ≤ k
        omega
      case measure => simp [intOf]; omega
    · have HE : Hid (mkT k = (⟨#[109]⟩ : ByteArray) ++ out) := hide (by unfold mkT; rw [← unhide HD, digs_end f h0])
      have HB := hide hbel
      have hsz1 : (⟨#[109]⟩ : ByteArray).size + out.size ≤ 9223372036854775807 := by
        show 1 + out.size ≤ _
        omega
      clear hbel
      go_wp2_with fail
      go_ret
      exact ⟨by rw [unhide HE]; rfl, unhide HB⟩

end Go.Proofs.YticdccdkjepifaaGreat

namespace Go.Proofs.YticdccdkjepifaaGreat
open Go.RowKit

/-- The worlds in which nothing that was there in w has turned, as the values of a function. -/
theorem belClass (w : World) : ∃ (ι : Type) (f : ι → World), Nonempty ι ∧ (∀ x, Below w.heap.size w (f x)) ∧ (∀ w', Below w.heap.size w w' → ∃ x, w' = f x) :=
  ⟨{w' // Below w.heap.size w w'}, Subtype.val, ⟨⟨w, Below.refl _ _⟩⟩, fun x => x.2, fun w' h => ⟨⟨w', h⟩, rfl⟩⟩

theorem wp_region_bel {P : Program} {id : Nat} {Q : Exit → Act → World → Prop} {a : Act} {w : World} {l : List Oper} {ι : Type} {f : ι → World} (hall : ∀ w', Below w.heap.size w w' → ∃ x, w' = f x)
    (hm : P.follows .mixedOrders = true) (hB : Region.lexB .any l.toArray = true)
    (h : wpQuiet P l.toArray (fun w' => ∃ x, w' = f x) (fun a' => ∀ w', (∃ x, w' = f x) → Q .normal a' w') l a) : (Code.region id l.toArray true).wp P Q a w :=
  wp_region_quiet (C := fun w' => ∃ x, w' = f x) hm hB (hall _ ⟨rfl, rfl, rfl, Nat.le_refl _, fun _ _ => rfl⟩) (by simpa using h)

/-- A callee's contract in such a walk. -/
theorem belQ {P : Program} {F : FuncId} {args : Array Value} {w : World} {ι : Type} {f : ι → World} (hb : ∀ x, Below w.heap.size w (f x)) (hall : ∀ w', Below w.heap.size w w' → ∃ x, w' = f x) {x : ι} {v : Value}
    (h : Calls P F args (f x) fun e w' => e = .returned v ∧ Below (f x).heap.size (f x) w') : Calls P F args (f x) fun e w'' => e = .returned v ∧ ∃ y, w'' = f y :=
  h.mono fun _ _ ⟨he, k⟩ => ⟨he, hall _ ((hb x).trans (k.mono (hb x).size))⟩
theorem belS {P : Program} {F : FuncId} {args : Array Value} {ι : Type} {f : ι → World} {x : ι} {v : Value}
    (h : Calls P F args (f x) fun e w' => e = .returned v ∧ w' = f x) : Calls P F args (f x) fun e w'' => e = .returned v ∧ ∃ y, w'' = f y :=
  h.mono fun _ _ ⟨he, k⟩ => ⟨he, x, k⟩
theorem belN {P : Program} {F : FuncId} {args : Array Value} {w : World} {ι : Type} {f : ι → World} (hb : ∀ x, Below w.heap.size w (f x)) (hall : ∀ w', Below w.heap.size w w' → ∃ x, w' = f x) {x : ι} {v : Value}
    (h : Calls P F args (f x) fun e w' => e = .returned v ∧ ∃ n, w' = (f x).drewN n) : Calls P F args (f x) fun e w'' => e = .returned v ∧ ∃ y, w'' = f y :=
  h.mono fun _ _ ⟨he, n, k⟩ => ⟨he, hall _ (by rw [k]; exact (hb x).trans (bel0d' n))⟩

end Go.Proofs.YticdccdkjepifaaGreat
