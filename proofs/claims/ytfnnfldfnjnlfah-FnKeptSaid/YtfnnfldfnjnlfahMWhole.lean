/-
  A whole struct or array that lies in a block of its own, loaded and stored in one step of a walk. No condition.
  A block that another row's growth leaves as it was. No condition.
  Worlds in which only blocks of a set have turned; what is owned or boxed elsewhere stays. No condition.
  A hangar in memory: its lock, a fleet's lists in memory of their own. No condition.
-/
import Derived.Test.YtfnnfldfnjnlfahChecked
import Derived.Test.YtfnnfldfnjnlfahMBlk
import Derived.Laws.Cells
import Derived.Laws.IdiomCopy

namespace Go.Proofs.Ytfnnfldfnjnlfah
open Go.RowKit

theorem addr0 (B j : Nat) : (⟨B, 0, none⟩ : Addr).add j = ⟨B, j, none⟩ := by unfold Addr.add; simp; exact fun h => h.symm
theorem run_loadVar {t : TypeId} {w : World} {B : Nat} {vs : List Value} (hA : ∀ w, (isAgg t).run Try.prog w = .ok true w) (hZ : ∀ w, (Go.sizeOf t).run Try.prog w = .ok vs.length w) (hb : Blk w B vs) :
    (loadVar t ⟨B, 0, none⟩).run Try.prog w = .ok (.agg vs.toArray) w := by
  have hl := run_loadCells_list (P := Try.prog) (w := w) ⟨B, 0, none⟩ vs (fun j v hj => by
    obtain ⟨h, e⟩ := List.getElem?_eq_some_iff.1 hj
    rw [addr0, ← e]; exact hb.c j h)
  unfold loadVar
  simp [hA, hZ, hl]
theorem Blk.setCells {w : World} {B : Nat} {us vs : List Value} (h : Blk w B us) (hl : us.length = vs.length) : Blk (w.setCells B 0 vs) B vs ∧ w.grownBy (w.setCells B 0 vs) (some B) := by
  have gr : ∀ (vs : List Value) (o : Nat) (w : World), w.grownBy (w.setCells B o vs) (some B) := by
    intro vs
    induction vs with
    | nil => intro o w; exact ⟨rfl, rfl, rfl, Nat.le_refl _, fun _ _ _ => rfl⟩
    | cons v r ih =>
      intro o w
      have h1 := ih (o + 1) (w.setCell ⟨B, o, none⟩ v)
      refine ⟨h1.os, h1.tape, h1.output, Nat.le_trans (by simp [World.setCell]) h1.size, fun k hk hne => ?_⟩
      have hkB : k ≠ B := fun e => hne (by rw [e])
      exact (h1.block k (by simpa [World.setCell] using hk) hne).trans (Below.heap_setCell _ _ _ _ hkB)
  refine ⟨⟨fun i hi => ?_, fun i hi => ?_, Nat.lt_of_lt_of_le h.lt (gr vs 0 w).size⟩, gr vs 0 w⟩
  · have := World.cell?_setCells_in B vs 0 w (fun j hj => by rw [Nat.zero_add, h.c j (by omega)]; rfl) i hi
    simpa using this
  · rw [World.frozen?_setCells]; exact h.f i (by omega)
theorem run_storeVar {t : TypeId} {w : World} {B : Nat} {us vs : List Value} (hZ : ∀ w, (Go.sizeOf t).run Try.prog w = .ok vs.length w) (hl : us.length = vs.length) (h1 : ∀ v ∈ vs, v.oneCell' = true) (hb : Blk w B us) :
    (storeVar t ⟨B, 0, none⟩ (.agg vs.toArray)).run Try.prog w = .ok () (w.setCells B 0 vs) := by
  have hs := run_storeCells_cells (P := Try.prog) B 0 vs 0 w (fun j hj => by rw [show 0 + 0 + j = j by omega, hb.c j (by omega)]; rfl) (fun j hj => by rw [show 0 + 0 + j = j by omega]; exact hb.f j (by omega)) h1
  unfold storeVar
  simp [hZ, Value.cells, hs]

theorem at_loadAgg {ops : Array Oper} {rest : List Oper} {d : Option Tmp} {t ty : TypeId} {s : Operand} {pos : String} {af : Array Edge} {a : Act} {Q : Exit → Act → World → Prop} {w : World} {B : Nat} {vs : List Value}
    (hA : ∀ w, (isAgg t).run Try.prog w = .ok true w) (hZ : ∀ w, (Go.sizeOf t).run Try.prog w = .ok vs.length w) (hs : a.eval s = .pointer (some ⟨B, 0, none⟩)) (hb : Blk w B vs)
    (hK : wpList Try.prog ops Q rest (a.put d (.agg vs.toArray)) w) : wpList Try.prog ops Q (⟨d, .load t s, ty, pos, af, none⟩ :: rest) a w := by
  refine wpList_plain rfl fun K hK' => ?_
  have hr := run_loadVar hA hZ hb
  unfold Oper.wp
  simp [execOp, hs, Instr.loadAt, Instr.sureAddr, hr, Result.andThen]
  exact hK' _ _ hK
theorem at_storeAgg {ops : Array Oper} {rest : List Oper} {t ty : TypeId} {s x : Operand} {pos : String} {af : Array Edge} {a : Act} {Q : Exit → Act → World → Prop} {w : World} {B : Nat} {us vs : List Value}
    (hZ : ∀ w, (Go.sizeOf t).run Try.prog w = .ok vs.length w) (hs : a.eval s = .pointer (some ⟨B, 0, none⟩)) (hx : a.eval x = .agg vs.toArray) (hb : Blk w B us) (hl : us.length = vs.length) (h1 : ∀ v ∈ vs, v.oneCell' = true)
    (hK : ∀ w2, Blk w2 B vs → w.grownBy w2 (some B) → wpList Try.prog ops Q rest a w2) : wpList Try.prog ops Q (⟨none, .store t s x, ty, pos, af, none⟩ :: rest) a w := by
  refine wpList_plain rfl fun K hK' => ?_
  have hr := run_storeVar hZ hl h1 hb
  have h2 := hb.setCells hl
  unfold Oper.wp
  simp [execOp, hs, hx, Instr.storeAt, Instr.sureAddr, hr, Result.andThen]
  exact hK' _ _ (hK _ h2.1 h2.2)

/-- A result that stands in such a block. -/
theorem results_cell {fn : Func} {p : Tmp} {t : TypeId} {tmps : Array Value} {w : World} {B : Nat} {vs : List Value} (h : fn.results = #[.cell p t]) (hA : ∀ w, (isAgg t).run Try.prog w = .ok true w) (hZ : ∀ w, (Go.sizeOf t).run Try.prog w = .ok vs.length w)
    (hp : tmps.getD p undef = .pointer (some ⟨B, 0, none⟩)) (hb : Blk w B vs) : (results fn tmps).run Try.prog w = .ok (.agg vs.toArray) w := by
  have hr := run_loadVar hA hZ hb
  have hp' : tmps[p]?.getD undef = .pointer (some ⟨B, 0, none⟩) := by simpa using hp
  simp only [results, h]
  simp [hp', asAddr, hr]

end Go.Proofs.Ytfnnfldfnjnlfah

namespace Go.Proofs.Ytfnnfldfnjnlfah
open Go.RowKit

theorem Blk.apart {w w' : World} {B : Nat} {vs : List Value} {row : Option Nat} (h : Blk w B vs) (k : w.grownBy w' row) (hne : some B ≠ row) : Blk w' B vs := by
  have hb := k.block B h.lt hne
  refine ⟨fun i hi => (World.cell?_of_block (a := ⟨B, i, none⟩) hb).trans (h.c i hi), fun i hi => ?_, Nat.lt_of_lt_of_le h.lt k.size⟩
  have h2 := h.f i hi
  unfold World.frozen? at h2 ⊢
  simp only at h2 ⊢
  rw [hb]; exact h2

/-- A result that stands in a block, and one behind it. -/
theorem results_cellB {fn : Func} {p q : Tmp} {t : TypeId} {tmps : Array Value} {w : World} {B : Nat} {vs : List Value} {x : Value} (h : fn.results = #[.cell p t, .tmp q]) (hA : ∀ w, (isAgg t).run Try.prog w = .ok true w) (hZ : ∀ w, (Go.sizeOf t).run Try.prog w = .ok vs.length w)
    (hp : tmps.getD p undef = .pointer (some ⟨B, 0, none⟩)) (hb : Blk w B vs) (hq : tmps.getD q undef = x) : (results fn tmps).run Try.prog w = .ok (.tuple #[.agg vs.toArray, x]) w := by
  have hr := run_loadVar hA hZ hb
  have hp' : tmps[p]?.getD undef = .pointer (some ⟨B, 0, none⟩) := by simpa using hp
  have hq' : tmps[q]?.getD undef = x := by simpa using hq
  simp only [results, h]
  simp [hp', hq', asAddr, hr]

end Go.Proofs.Ytfnnfldfnjnlfah

namespace Go.Proofs.Ytfnnfldfnjnlfah
open Go.RowKit

/-- Only blocks of the set have turned. -/
structure Aps (S : Nat → Prop) (w w' : World) : Prop where
  os : w'.os = w.os
  tape : w'.tape = w.tape
  output : w'.output = w.output
  size : w.heap.size ≤ w'.heap.size
  block : ∀ k, k < w.heap.size → ¬ S k → w'.heap[k]? = w.heap[k]?
theorem Aps.refl (S : Nat → Prop) (w : World) : Aps S w w := ⟨rfl, rfl, rfl, Nat.le_refl _, fun _ _ _ => rfl⟩
theorem Aps.trans {S : Nat → Prop} {a b c : World} (h : Aps S a b) (k : Aps S b c) : Aps S a c :=
  ⟨k.os.trans h.os, k.tape.trans h.tape, k.output.trans h.output, Nat.le_trans h.size k.size, fun i hi he => (k.block i (Nat.lt_of_lt_of_le hi h.size) he).trans (h.block i hi he)⟩
theorem Aps.of_row {S : Nat → Prop} {w w' : World} {row : Option Nat} (h : w.grownBy w' row) (hr : ∀ g, row = some g → S g) : Aps S w w' :=
  ⟨h.os, h.tape, h.output, h.size, fun k hk he => h.block k hk (fun e => he (hr k e.symm))⟩
theorem Aps.of_below {S : Nat → Prop} {w w' : World} (h : Below w.heap.size w w') : Aps S w w' :=
  ⟨h.os, h.tape, h.output, h.size, fun k hk _ => h.block k hk⟩
theorem Aps.mono {S S' : Nat → Prop} {w w' : World} (h : Aps S w w') (h1 : ∀ k, S k → S' k) : Aps S' w w' :=
  ⟨h.os, h.tape, h.output, h.size, fun k hk he => h.block k hk (fun e => he (h1 k e))⟩
theorem Aps.below {S : Nat → Prop} {B : Nat} {w w' : World} (h : Aps S w w') (hb : ∀ k, S k → B ≤ k) (hs : B ≤ w.heap.size) : Below B w w' :=
  ⟨h.os, h.tape, h.output, h.size, fun k hk => h.block k (by omega) (fun e => by have := hb k e; omega)⟩
theorem below_aps {S : Nat → Prop} {B : Nat} {a w w' : World} (h : Below B a w) (k : Aps S w w') (hb : ∀ k, S k → B ≤ k) (hs : B ≤ a.heap.size) : Below B a w' :=
  h.trans (k.below hb (Nat.le_trans hs h.size))
theorem Aps.setS {S : Nat → Prop} {a b : World} (h : Aps S a b) {p : Addr} (hp : S p.block) (v : Value) : Aps S a (b.setCell p v) :=
  h.trans ⟨rfl, rfl, rfl, by simp [World.setCell], fun k _ he => Below.heap_setCell _ _ _ _ (fun e => he (e ▸ hp))⟩
theorem Aps.grow {S : Nat → Prop} {a b c : World} {row : Option Nat} (h : Aps S a b) (gr : b.grownBy c row) (hr : ∀ g, row = some g → S g) : Aps S a c := h.trans (Aps.of_row gr hr)
theorem Aps.alloc {S : Nat → Prop} {a b : World} (h : Aps S a b) (o : Obj) : Aps S a (b.alloc o) := h.trans (Aps.of_below (bel1 _))
theorem Aps.growN {S : Nat → Prop} {a b c : World} {row : Option Nat} (h : Aps S a b) (gr : b.grownBy c row) (hr : ∀ g, row = some g → S g ∨ a.heap.size ≤ g) : Aps S a c :=
  ⟨gr.os.trans h.os, gr.tape.trans h.tape, gr.output.trans h.output, Nat.le_trans h.size gr.size, fun k hk he => (gr.block k (Nat.lt_of_lt_of_le hk h.size) (fun e => by rcases hr k e.symm with x | x; exact he x; omega)).trans (h.block k hk he)⟩
theorem Blk.aps {S : Nat → Prop} {w w' : World} {B : Nat} {vs : List Value} (h : Blk w B vs) (k : Aps S w w') (ho : ¬ S B) : Blk w' B vs := by
  have hb := k.block B h.lt ho
  refine ⟨fun i hi => (World.cell?_of_block (a := ⟨B, i, none⟩) hb).trans (h.c i hi), fun i hi => ?_, Nat.lt_of_lt_of_le h.lt k.size⟩
  have h2 := h.f i hi
  unfold World.frozen? at h2 ⊢
  simp only at h2 ⊢
  rw [hb]; exact h2
theorem OwnE.aps {α : Type} [Inhabited α] {K : Nat} {cells : α → Nat → Value} {S : Nat → Prop} {w w' : World} {base : Nat} {T : TypeId} {v : Value} {ps : List α} (h : OwnE K cells w base T v ps) (k : Aps S w w') (hne : ∀ g, v.ownBlock = some g → ¬ S g) : OwnE K cells w' base T v ps := by
  obtain ⟨xs, ⟨h1, h2⟩, hx⟩ := h.own
  refine ⟨⟨xs, ⟨h1, ?_⟩, hx⟩⟩
  rcases h2 with h2 | ⟨g, cap, cur, rfl, b, c, d⟩
  · exact .inl h2
  · refine .inr ⟨g, cap, cur, rfl, b, ?_, d⟩
    have hg : g < w.heap.size := by
      rcases Nat.lt_or_ge g w.heap.size with hlt | hge
      · exact hlt
      · rw [Array.getElem?_eq_none hge] at c; cases c
    rw [k.block g hg (hne g rfl)]; exact c
/-- A list that was written out, in a block of its own. -/
theorem ownE_lit {α : Type} [Inhabited α] {K : Nat} {cells : α → Nat → Value} {w : World} {base : Nat} {T : TypeId} {ps : List α} {vs : List Value} {n : Nat} (hb : base ≤ w.heap.size) (hn : ps.length = n) (hm : n ≤ 1000) (hl : vs.length = n * K)
    (hc : ∀ j, j < n → ∀ q, q < K → vs[j * K + q]? = some (cells (elAt ps j) q)) : OwnE K cells (w.alloc (Obj.cells vs.toArray T)) base T (.slice (some ⟨w.heap.size, 0, none⟩) n n) ps := by
  subst hn
  refine ⟨⟨vs, ⟨hl, .inr ⟨_, _, vs.toArray, rfl, hb, ?_, Nat.le_refl _, by unfold maxLen; omega, by simpa using hl, by simp [← hl]⟩⟩, hc⟩⟩
  show (w.heap.push _)[w.heap.size]? = _
  simp

end Go.Proofs.Ytfnnfldfnjnlfah

namespace Go.Proofs.Ytfnnfldfnjnlfah
open Go Go.RowKit

/-- A hangar at block G whose lock's word is m; what it holds lies from base on. -/
structure Hg (w : World) (base G : Nat) (m : Int) (a1 a2 a3 : Option Addr) (c1 c2 c3 : Nat) (ts : List Ts) (cs : List Cr) (ds : List Df) (nh nc nd : Int) : Prop where
  blk : Blk w G [.int .i32 m, .int .u32 0, .slice a1 ts.length c1, .slice a2 cs.length c2, .slice a3 ds.length c3, .int .i64 nh, .int .i64 nc, .int .i64 nd]
  own : FlOwn w base a1 a2 a3 ts.length c1 cs.length c2 ds.length c3 ts cs ds
  low : base ≤ G
  n1 : (Value.slice a1 ts.length c1).ownBlock ≠ some G
  n2 : (Value.slice a2 cs.length c2).ownBlock ≠ some G
  n3 : (Value.slice a3 ds.length c3).ownBlock ≠ some G
  s3 : a3 ≠ none
theorem Hg.below {w w' : World} {base G : Nat} {m : Int} {a1 a2 a3 : Option Addr} {c1 c2 c3 : Nat} {ts : List Ts} {cs : List Cr} {ds : List Df} {nh nc nd : Int} (h : Hg w base G m a1 a2 a3 c1 c2 c3 ts cs ds nh nc nd) (k : Below w.heap.size w w') : Hg w' base G m a1 a2 a3 c1 c2 c3 ts cs ds nh nc nd :=
  ⟨h.blk.below k, h.own.below k, h.low, h.n1, h.n2, h.n3, h.s3⟩
theorem Hg.size {w : World} {base G : Nat} {m : Int} {a1 a2 a3 : Option Addr} {c1 c2 c3 : Nat} {ts : List Ts} {cs : List Cr} {ds : List Df} {nh nc nd : Int} (h : Hg w base G m a1 a2 a3 c1 c2 c3 ts cs ds nh nc nd) : base ≤ w.heap.size := by
  have := h.blk.lt
  have := h.low
  omega
/-- The lock's word set. -/
theorem Hg.lock {w : World} {base G : Nat} {m : Int} {a1 a2 a3 : Option Addr} {c1 c2 c3 : Nat} {ts : List Ts} {cs : List Cr} {ds : List Df} {nh nc nd : Int} (h : Hg w base G m a1 a2 a3 c1 c2 c3 ts cs ds nh nc nd) (m' : Int) : Hg (w.setCell ⟨G, 0, none⟩ (.int .i32 m')) base G m' a1 a2 a3 c1 c2 c3 ts cs ds nh nc nd :=
  ⟨h.blk.set 0 (by simp) _, h.own.set_other _ h.n1 h.n2 h.n3, h.low, h.n1, h.n2, h.n3, h.s3⟩
/-- The clock set. -/
theorem Hg.now {w : World} {base G : Nat} {m : Int} {a1 a2 a3 : Option Addr} {c1 c2 c3 : Nat} {ts : List Ts} {cs : List Cr} {ds : List Df} {nh nc nd : Int} (h : Hg w base G m a1 a2 a3 c1 c2 c3 ts cs ds nh nc nd) (x y z : Int) : Hg (((w.setCell ⟨G, 5, none⟩ (.int .i64 x)).setCell ⟨G, 6, none⟩ (.int .i64 y)).setCell ⟨G, 7, none⟩ (.int .i64 z)) base G m a1 a2 a3 c1 c2 c3 ts cs ds x y z :=
  ⟨((h.blk.set 5 (by simp) _).set 6 (by simp) _).set 7 (by simp) _, ((h.own.set_other _ h.n1 h.n2 h.n3).set_other _ h.n1 h.n2 h.n3).set_other _ h.n1 h.n2 h.n3, h.low, h.n1, h.n2, h.n3, h.s3⟩
/-- Lists of unlike elements lie apart. -/
theorem own_ne {α β : Type} [Inhabited α] [Inhabited β] {K K' : Nat} {cells : α → Nat → Value} {cells' : β → Nat → Value} {w : World} {base base' : Nat} {T T' : TypeId} {v v' : Value} {ps : List α} {qs : List β} (h : OwnE K cells w base T v ps) (h' : OwnE K' cells' w base' T' v' qs) (hT : T ≠ T') : ∀ g, v.ownBlock = some g → v'.ownBlock ≠ some g := by
  intro g hg hg'
  obtain ⟨xs, ho, _⟩ := h.own
  obtain ⟨ys, ho', _⟩ := h'.own
  rcases ho.2 with ⟨e, _⟩ | ⟨g1, c1, cur1, rfl, _, hb1, _⟩
  · rw [e] at hg; simp [Value.ownBlock] at hg
  rcases ho'.2 with ⟨e, _⟩ | ⟨g2, c2, cur2, rfl, _, hb2, _⟩
  · rw [e] at hg'; simp [Value.ownBlock] at hg'
  have e1 : g1 = g := Option.some.inj hg
  have e2 : g2 = g := Option.some.inj hg'
  rw [e1] at hb1
  rw [e2, hb1] at hb2
  simp only [Option.some.injEq, Obj.cells.injEq] at hb2
  exact hT hb2.2.1
/-- Another list of defects put in its place. -/
theorem Hg.defects {w w' : World} {base G : Nat} {m : Int} {a1 a2 a3 a4 : Option Addr} {c1 c2 c3 c4 : Nat} {ts : List Ts} {cs : List Cr} {ds es : List Df} {nh nc nd : Int} (h : Hg w base G m a1 a2 a3 c1 c2 c3 ts cs ds nh nc nd) (gr : w.grownBy w' (Value.slice a3 ds.length c3).ownBlock)
    (o : OwnE 3 dfC w' base 40 (.slice a4 es.length c4) es) (ng : (Value.slice a4 es.length c4).ownBlock ≠ some G) (s4 : a4 ≠ none) :
    Hg (w'.setCell ⟨G, 4, none⟩ (.slice a4 es.length c4)) base G m a1 a2 a4 c1 c2 c4 ts cs es nh nc nd := by
  have b' := h.blk.apart gr (fun e => h.n3 e.symm)
  have p1 := h.own.o1.far gr (fun g hg e => h.own.p13 g hg e.symm)
  have p2 := h.own.o2.far gr (fun g hg e => h.own.p23 g hg e.symm)
  exact ⟨b'.set 4 (by simp) _, ⟨p1.set_other _ h.n1, p2.set_other _ h.n2, o.set_other _ ng, h.own.p12, own_ne p1 o (by decide), own_ne p2 o (by decide)⟩, h.low, h.n1, h.n2, ng, s4⟩
/-- A list of defects that is not empty lies apart from a hangar. -/
theorem Hg.apart {w w' : World} {base G : Nat} {m : Int} {a1 a2 a3 : Option Addr} {c1 c2 c3 : Nat} {ts : List Ts} {cs : List Cr} {ds es : List Df} {nh nc nd : Int} (h : Hg w base G m a1 a2 a3 c1 c2 c3 ts cs ds nh nc nd) (gr : w.grownBy w' (Value.slice a3 ds.length c3).ownBlock) {g n c : Nat}
    (o : OwnE 3 dfC w' base 40 (.slice (some ⟨g, 0, none⟩) n c) es) (hn : es.length = n) (h0 : 0 < n) : g ≠ G := by
  intro e
  subst e
  have b' := h.blk.apart gr (fun e => h.n3 e.symm)
  have c0 := b'.c 0 (by simp)
  have c1 := (o.here hn 0 h0 0 (by omega)).1
  rw [Nat.zero_mul, Nat.zero_add, c0] at c1
  simp [dfC] at c1
/-- A hangar, wherever its lists lie. -/
def HgE (w : World) (base G : Nat) (m : Int) (f : Fl) : Prop := ∃ a1 a2 a3 c1 c2 c3, Hg w base G m a1 a2 a3 c1 c2 c3 f.ts f.cs f.ds f.nh f.nc f.nd
/-- A hangar's own blocks. -/
def hz (G : Nat) (a1 a2 a3 : Option Addr) (b : Nat) : Prop := b = G ∨ (Value.slice a1 0 0).ownBlock = some b ∨ (Value.slice a2 0 0).ownBlock = some b ∨ (Value.slice a3 0 0).ownBlock = some b
theorem apz {w w' : World} (G : Nat) (a1 a2 a3 : Option Addr) (h : Below w.heap.size w w') : Aps (hz G a1 a2 a3) w w' := Aps.of_below h
theorem hz_G {G : Nat} {a1 a2 a3 : Option Addr} : hz G a1 a2 a3 G := .inl rfl
theorem hz_1 {G g : Nat} {a2 a3 : Option Addr} : hz G (some ⟨g, 0, none⟩) a2 a3 g := .inr (.inl rfl)
theorem hz_3 {G g : Nat} {a1 a2 : Option Addr} : hz G a1 a2 (some ⟨g, 0, none⟩) g := .inr (.inr (.inr rfl))
theorem own_len (a : Option Addr) (l c l' c' : Nat) : (Value.slice a l c).ownBlock = (Value.slice a l' c').ownBlock := by rcases a with _ | ⟨b, _ | o, _ | r⟩ <;> rfl
theorem Hg.hz_low {w : World} {base G : Nat} {m : Int} {a1 a2 a3 : Option Addr} {c1 c2 c3 : Nat} {ts : List Ts} {cs : List Cr} {ds : List Df} {nh nc nd : Int} (h : Hg w base G m a1 a2 a3 c1 c2 c3 ts cs ds nh nc nd) : ∀ k, hz G a1 a2 a3 k → base ≤ k := by
  rintro k (rfl | e | e | e)
  · exact h.low
  · exact (h.own.o1.lies k ((own_len _ _ _ _ _).trans e)).1
  · exact (h.own.o2.lies k ((own_len _ _ _ _ _).trans e)).1
  · exact (h.own.o3.lies k ((own_len _ _ _ _ _).trans e)).1
/-- Texts that can be there. -/
structure FitF (f : Fl) : Prop where
  t : ∀ i, fitT (elAt f.ts i).nm
  c : ∀ i, fitT (elAt f.cs i).n
  d : ∀ i, fitT (elAt f.ds i).n

end Go.Proofs.Ytfnnfldfnjnlfah
