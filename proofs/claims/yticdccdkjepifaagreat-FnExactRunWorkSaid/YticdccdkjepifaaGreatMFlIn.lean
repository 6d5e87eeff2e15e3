/-
  A fleet's lists, read; made by a call, each in memory of its own; where they lie. No condition.
  A hangar in memory: its lock, a fleet's lists in memory of their own. No condition.
  What the program's carryOf and manyOf answer: plain answers; nothing that was there is written.
-/
import Derived.Test.YticdccdkjepifaaGreatMWrOrd
import Derived.Test.YticdccdkjepifaaGreatMOnly
import Derived.Test.YticdccdkjepifaaGreatMBlk
import Derived.Test.YticdccdkjepifaaGreatMTaAlert

namespace Go.Proofs.YticdccdkjepifaaGreat
open Go.RowKit

/-- Its lists, read. -/
structure FlIn (w : World) (a1 a2 a3 : Option Addr) (l1 l2 l3 : Nat) (z1 : List Ts) (z2 : List Cr) (z3 : List Df) : Prop where
  r1 : RowE 7 tsC w a1 l1 z1
  r2 : RowE 3 crC w a2 l2 z2
  r3 : RowE 3 dfC w a3 l3 z3
theorem FlIn.below {w w' : World} {a1 a2 a3 : Option Addr} {l1 l2 l3 : Nat} {z1 : List Ts} {z2 : List Cr} {z3 : List Df} (h : FlIn w a1 a2 a3 l1 l2 l3 z1 z2 z3) (k : Below w.heap.size w w') : FlIn w' a1 a2 a3 l1 l2 l3 z1 z2 z3 :=
  ⟨h.r1.below k, h.r2.below k, h.r3.below k⟩
/-- Its lists that a call has made, each in memory of its own. -/
structure FlOwn (w : World) (base : Nat) (a1 a2 a3 : Option Addr) (l1 c1 l2 c2 l3 c3 : Nat) (z1 : List Ts) (z2 : List Cr) (z3 : List Df) : Prop where
  o1 : OwnE 7 tsC w base 90 (.slice a1 l1 c1) z1
  o2 : OwnE 3 crC w base 92 (.slice a2 l2 c2) z2
  o3 : OwnE 3 dfC w base 94 (.slice a3 l3 c3) z3
  p12 : ∀ g, (Value.slice a1 l1 c1).ownBlock = some g → (Value.slice a2 l2 c2).ownBlock ≠ some g
  p13 : ∀ g, (Value.slice a1 l1 c1).ownBlock = some g → (Value.slice a3 l3 c3).ownBlock ≠ some g
  p23 : ∀ g, (Value.slice a2 l2 c2).ownBlock = some g → (Value.slice a3 l3 c3).ownBlock ≠ some g
theorem FlOwn.below {w w' : World} {base : Nat} {a1 a2 a3 : Option Addr} {l1 c1 l2 c2 l3 c3 : Nat} {z1 : List Ts} {z2 : List Cr} {z3 : List Df} (h : FlOwn w base a1 a2 a3 l1 c1 l2 c2 l3 c3 z1 z2 z3) (k : Below w.heap.size w w') : FlOwn w' base a1 a2 a3 l1 c1 l2 c2 l3 c3 z1 z2 z3 :=
  ⟨h.o1.below k, h.o2.below k, h.o3.below k, h.p12, h.p13, h.p23⟩
theorem FlOwn.mono {w : World} {base : Nat} {a1 a2 a3 : Option Addr} {l1 c1 l2 c2 l3 c3 : Nat} {z1 : List Ts} {z2 : List Cr} {z3 : List Df} (h : FlOwn w base a1 a2 a3 l1 c1 l2 c2 l3 c3 z1 z2 z3) {base' : Nat} (hb : base' ≤ base) : FlOwn w base' a1 a2 a3 l1 c1 l2 c2 l3 c3 z1 z2 z3 :=
  ⟨h.o1.mono hb, h.o2.mono hb, h.o3.mono hb, h.p12, h.p13, h.p23⟩
theorem FlOwn.read {w : World} {base : Nat} {a1 a2 a3 : Option Addr} {l1 c1 l2 c2 l3 c3 : Nat} {z1 : List Ts} {z2 : List Cr} {z3 : List Df} (h : FlOwn w base a1 a2 a3 l1 c1 l2 c2 l3 c3 z1 z2 z3) : FlIn w a1 a2 a3 l1 l2 l3 z1 z2 z3 :=
  ⟨h.o1.row, h.o2.row, h.o3.row⟩
/-- Blocks of its lists lie from base on, below a number. -/
def FlLies (base hi : Nat) (a1 a2 a3 : Option Addr) (l1 c1 l2 c2 l3 c3 : Nat) : Prop :=
  (∀ g, (Value.slice a1 l1 c1).ownBlock = some g → base ≤ g ∧ g < hi) ∧ (∀ g, (Value.slice a2 l2 c2).ownBlock = some g → base ≤ g ∧ g < hi) ∧ (∀ g, (Value.slice a3 l3 c3).ownBlock = some g → base ≤ g ∧ g < hi)
theorem FlOwn.lies {w : World} {base : Nat} {a1 a2 a3 : Option Addr} {l1 c1 l2 c2 l3 c3 : Nat} {z1 : List Ts} {z2 : List Cr} {z3 : List Df} (h : FlOwn w base a1 a2 a3 l1 c1 l2 c2 l3 c3 z1 z2 z3) : FlLies base w.heap.size a1 a2 a3 l1 c1 l2 c2 l3 c3 :=
  ⟨h.o1.lies, h.o2.lies, h.o3.lies⟩
theorem FlOwn.only {w w' : World} {base : Nat} {a1 a2 a3 : Option Addr} {l1 c1 l2 c2 l3 c3 : Nat} {z1 : List Ts} {z2 : List Cr} {z3 : List Df} {lo hi b u : Nat} (h : FlOwn w base a1 a2 a3 l1 c1 l2 c2 l3 c3 z1 z2 z3) (k : Only lo hi w w') (hl : FlLies b u a1 a2 a3 l1 c1 l2 c2 l3 c3) (hs : u ≤ lo ∨ hi ≤ b) : FlOwn w' base a1 a2 a3 l1 c1 l2 c2 l3 c3 z1 z2 z3 :=
  ⟨h.o1.only k (fun g hg => by have := hl.1 g hg; omega), h.o2.only k (fun g hg => by have := hl.2.1 g hg; omega), h.o3.only k (fun g hg => by have := hl.2.2 g hg; omega), h.p12, h.p13, h.p23⟩
theorem FlOwn.set_other {w : World} {base : Nat} {a1 a2 a3 : Option Addr} {l1 c1 l2 c2 l3 c3 : Nat} {z1 : List Ts} {z2 : List Cr} {z3 : List Df} (h : FlOwn w base a1 a2 a3 l1 c1 l2 c2 l3 c3 z1 z2 z3) {S o : Nat} (u : Value) (n1 : (Value.slice a1 l1 c1).ownBlock ≠ some S) (n2 : (Value.slice a2 l2 c2).ownBlock ≠ some S) (n3 : (Value.slice a3 l3 c3).ownBlock ≠ some S) : FlOwn (w.setCell ⟨S, o, none⟩ u) base a1 a2 a3 l1 c1 l2 c2 l3 c3 z1 z2 z3 :=
  ⟨h.o1.set_other u n1, h.o2.set_other u n2, h.o3.set_other u n3, h.p12, h.p13, h.p23⟩

end Go.Proofs.YticdccdkjepifaaGreat

namespace Go.Proofs.YticdccdkjepifaaGreat
open Go Go.RowKit

/-- A hangar at block G whose lock's word is m; what it holds lies from base on. -/
structure Hg (w : World) (base G : Nat) (m : Int) (a1 a2 a3 : Option Addr) (c1 c2 c3 : Nat) (ts : List Ts) (cs : List Cr) (ds : List Df) (nh nc nd : Int) : Prop where
  blk : Blk w G [.int .i32 m, .int .u32 0, .slice a1 ts.length c1, .slice a2 cs.length c2, .slice a3 ds.length c3, .int .i64 nh, .int .i64 nc, .int .i64 nd]
  own : FlOwn w base a1 a2 a3 ts.length c1 cs.length c2 ds.length c3 ts cs ds
  low : base ≤ G
  n1 : (Value.slice a1 ts.length c1).ownBlock ≠ some G
  n2 : (Value.slice a2 cs.length c2).ownBlock ≠ some G
  n3 : (Value.slice a3 ds.length c3).ownBlock ≠ some G
  s3 : a3 ≠ none
theorem Hg.below {w w' : World} {base G : Nat} {m : Int} {a1 a2 a3 : Option Addr} {c1 c2 c3 : Nat} {ts : List Ts} {cs : List Cr} {ds : List Df} {nh nc nd : Int} (h : Hg w base G m a1 a2 a3 c1 c2 c3 ts cs ds nh nc nd) (k : Below w.heap.size w w') : Hg w' base G m a1 a2 a3 c1 c2 c3 ts cs ds nh nc nd :=
  ⟨h.blk.below k, h.own.below k, h.low, h.n1, h.n2, h.n3, h.s3⟩
theorem Hg.size {w : World} {base G : Nat} {m : Int} {a1 a2 a3 : Option Addr} {c1 c2 c3 : Nat} {ts : List Ts} {cs : List Cr} {ds : List Df} {nh nc nd : Int} (h : Hg w base G m a1 a2 a3 c1 c2 c3 ts cs ds nh nc nd) : base ≤ w.heap.size := by
  have := h.blk.lt
  have := h.low
  omega
/-- The lock's word set. -/
theorem Hg.lock {w : World} {base G : Nat} {m : Int} {a1 a2 a3 : Option Addr} {c1 c2 c3 : Nat} {ts : List Ts} {cs : List Cr} {ds : List Df} {nh nc nd : Int} (h : Hg w base G m a1 a2 a3 c1 c2 c3 ts cs ds nh nc nd) (m' : Int) : Hg (w.setCell ⟨G, 0, none⟩ (.int .i32 m')) base G m' a1 a2 a3 c1 c2 c3 ts cs ds nh nc nd :=
  ⟨h.blk.set 0 (by simp) _, h.own.set_other _ h.n1 h.n2 h.n3, h.low, h.n1, h.n2, h.n3, h.s3⟩
/-- The clock set. -/
theorem Hg.now {w : World} {base G : Nat} {m : Int} {a1 a2 a3 : Option Addr} {c1 c2 c3 : Nat} {ts : List Ts} {cs : List Cr} {ds : List Df} {nh nc nd : Int} (h : Hg w base G m a1 a2 a3 c1 c2 c3 ts cs ds nh nc nd) (x y z : Int) : Hg (((w.setCell ⟨G, 5, none⟩ (.int .i64 x)).setCell ⟨G, 6, none⟩ (.int .i64 y)).setCell ⟨G, 7, none⟩ (.int .i64 z)) base G m a1 a2 a3 c1 c2 c3 ts cs ds x y z :=
  ⟨((h.blk.set 5 (by simp) _).set 6 (by simp) _).set 7 (by simp) _, ((h.own.set_other _ h.n1 h.n2 h.n3).set_other _ h.n1 h.n2 h.n3).set_other _ h.n1 h.n2 h.n3, h.low, h.n1, h.n2, h.n3, h.s3⟩
/-- Lists of unlike elements lie apart. -/
theorem own_ne {α β : Type} [Inhabited α] [Inhabited β] {K K' : Nat} {cells : α → Nat → Value} {cells' : β → Nat → Value} {w : World} {base base' : Nat} {T T' : TypeId} {v v' : Value} {ps : List α} {qs : List β} (h : OwnE K cells w base T v ps) (h' : OwnE K' cells' w base' T' v' qs) (hT : T ≠ T') : ∀ g, v.ownBlock = some g → v'.ownBlock ≠ some g := by
  intro g hg hg'
  obtain ⟨xs, ho, _⟩ := h.own
  obtain ⟨ys, ho', _⟩ := h'.own
  rcases ho.2 with ⟨e, _⟩ | ⟨g1, c1, cur1, rfl, _, hb1, _⟩
  · rw [e] at hg; simp [Value.ownBlock] at hg
  rcases ho'.2 with ⟨e, _⟩ | ⟨g2, c2, cur2, rfl, _, hb2, _⟩
  · rw [e] at hg'; simp [Value.ownBlock] at hg'
  have e1 : g1 = g := Option.some.inj hg
  have e2 : g2 = g := Option.some.inj hg'
  rw [e1] at hb1
  rw [e2, hb1] at hb2
  simp only [Option.some.injEq, Obj.cells.injEq] at hb2
  exact hT hb2.2.1
/-- Another list of defects put in its place. -/
theorem Hg.defects {w w' : World} {base G : Nat} {m : Int} {a1 a2 a3 a4 : Option Addr} {c1 c2 c3 c4 : Nat} {ts : List Ts} {cs : List Cr} {ds es : List Df} {nh nc nd : Int} (h : Hg w base G m a1 a2 a3 c1 c2 c3 ts cs ds nh nc nd) (gr : w.grownBy w' (Value.slice a3 ds.length c3).ownBlock)
    (o : OwnE 3 dfC w' base 94 (.slice a4 es.length c4) es) (ng : (Value.slice a4 es.length c4).ownBlock ≠ some G) (s4 : a4 ≠ none) :
    Hg (w'.setCell ⟨G, 4, none⟩ (.slice a4 es.length c4)) base G m a1 a2 a4 c1 c2 c4 ts cs es nh nc nd := by
  have b' := h.blk.apart gr (fun e => h.n3 e.symm)
  have p1 := h.own.o1.far gr (fun g hg e => h.own.p13 g hg e.symm)
  have p2 := h.own.o2.far gr (fun g hg e => h.own.p23 g hg e.symm)
  exact ⟨b'.set 4 (by simp) _, ⟨p1.set_other _ h.n1, p2.set_other _ h.n2, o.set_other _ ng, h.own.p12, own_ne p1 o (by decide), own_ne p2 o (by decide)⟩, h.low, h.n1, h.n2, ng, s4⟩
/-- A list of defects that is not empty lies apart from a hangar. -/
theorem Hg.apart {w w' : World} {base G : Nat} {m : Int} {a1 a2 a3 : Option Addr} {c1 c2 c3 : Nat} {ts : List Ts} {cs : List Cr} {ds es : List Df} {nh nc nd : Int} (h : Hg w base G m a1 a2 a3 c1 c2 c3 ts cs ds nh nc nd) (gr : w.grownBy w' (Value.slice a3 ds.length c3).ownBlock) {g n c : Nat}
    (o : OwnE 3 dfC w' base 94 (.slice (some ⟨g, 0, none⟩) n c) es) (hn : es.length = n) (h0 : 0 < n) : g ≠ G := by
  intro e
  subst e
  have b' := h.blk.apart gr (fun e => h.n3 e.symm)
  have c0 := b'.c 0 (by simp)
  have c1 := (o.here hn 0 h0 0 (by omega)).1
  rw [Nat.zero_mul, Nat.zero_add, c0] at c1
  simp [dfC] at c1
/-- A hangar, wherever its lists lie. -/
def HgE (w : World) (base G : Nat) (m : Int) (f : Fl) : Prop := ∃ a1 a2 a3 c1 c2 c3, Hg w base G m a1 a2 a3 c1 c2 c3 f.ts f.cs f.ds f.nh f.nc f.nd
/-- A hangar's own blocks. -/
def hz (G : Nat) (a1 a2 a3 : Option Addr) (b : Nat) : Prop := b = G ∨ (Value.slice a1 0 0).ownBlock = some b ∨ (Value.slice a2 0 0).ownBlock = some b ∨ (Value.slice a3 0 0).ownBlock = some b
theorem apz {w w' : World} (G : Nat) (a1 a2 a3 : Option Addr) (h : Below w.heap.size w w') : Aps (hz G a1 a2 a3) w w' := Aps.of_below h
theorem hz_G {G : Nat} {a1 a2 a3 : Option Addr} : hz G a1 a2 a3 G := .inl rfl
theorem hz_1 {G g : Nat} {a2 a3 : Option Addr} : hz G (some ⟨g, 0, none⟩) a2 a3 g := .inr (.inl rfl)
theorem hz_3 {G g : Nat} {a1 a2 : Option Addr} : hz G a1 a2 (some ⟨g, 0, none⟩) g := .inr (.inr (.inr rfl))
theorem own_len (a : Option Addr) (l c l' c' : Nat) : (Value.slice a l c).ownBlock = (Value.slice a l' c').ownBlock := by rcases a with _ | ⟨b, _ | o, _ | r⟩ <;> rfl
theorem Hg.hz_low {w : World} {base G : Nat} {m : Int} {a1 a2 a3 : Option Addr} {c1 c2 c3 : Nat} {ts : List Ts} {cs : List Cr} {ds : List Df} {nh nc nd : Int} (h : Hg w base G m a1 a2 a3 c1 c2 c3 ts cs ds nh nc nd) : ∀ k, hz G a1 a2 a3 k → base ≤ k := by
  rintro k (rfl | e | e | e)
  · exact h.low
  · exact (h.own.o1.lies k ((own_len _ _ _ _ _).trans e)).1
  · exact (h.own.o2.lies k ((own_len _ _ _ _ _).trans e)).1
  · exact (h.own.o3.lies k ((own_len _ _ _ _ _).trans e)).1
/-- Texts that can be there. -/
structure FitF (f : Fl) : Prop where
  t : ∀ i, fitT (elAt f.ts i).nm
  c : ∀ i, fitT (elAt f.cs i).n
  d : ∀ i, fitT (elAt f.ds i).n

end Go.Proofs.YticdccdkjepifaaGreat

namespace Go.Proofs.YticdccdkjepifaaGreat
open Go Go.RowKit

/-- The carry of a name; the plain one where there is none. -/
def crAt (cs : List Cr) (nm : ByteArray) : Cr := if ixE (qCr nm) cs < 0 then default else elAt cs (ixE (qCr nm) cs).toNat
theorem txl_no {x y : ByteArray} (h : ¬ x = y) : (x.toList == y.toList) = false := by
  rw [beq_eq_false_iff_ne]
  intro e
  rw [ByteArray.toList_eq, ByteArray.toList_eq] at e
  exact h (by cases x; cases y; simp only [ByteArray.mk.injEq]; exact Array.toList_inj.1 e)
theorem crAt_yes {cs : List Cr} {nm : ByteArray} {k : Nat} (hk : k < cs.length) (h : (elAt cs k).n = nm) (hj : ∀ j, j < k → qCr nm (elAt cs j) = false) : ixE (qCr nm) cs = (k : Int) ∧ crAt cs nm = elAt cs k := by
  have e := ixE_at (P := qCr nm) hk (decide_eq_true h) hj
  refine ⟨e, ?_⟩
  rw [crAt, e, if_neg (by omega)]
  simp
theorem crAt_no {cs : List Cr} {nm : ByteArray} (hj : ∀ j, j < cs.length → qCr nm (elAt cs j) = false) : ixE (qCr nm) cs = -1 ∧ crAt cs nm = default := by
  have e := ixE_none (P := qCr nm) hj
  exact ⟨e, by rw [crAt, e, if_pos (by omega)]⟩
theorem ret_cr {x y : Cr} {b c : Bool} (h : x = y) (k : b = c) : Ending.returned (.tuple #[.agg #[.string x.n, .int .i64 x.m, .int .i64 x.d], .bool b]) = .returned (.tuple #[.agg #[.string y.n, .int .i64 y.m, .int .i64 y.d], .bool c]) := by rw [h, k]
set_option maxRecDepth 20000 in
set_option maxHeartbeats 2000000 in
theorem carryOf_any (nh nc nd : Int) (a1 a2 a3 : Option Addr) (l1 c1 l2 c2 l3 c3 : Nat) (cs : List Cr) (nm : ByteArray) (w : World) (hr : RowE 3 crC w a2 l2 cs) :
    Calls Tryz.prog 128 #[.agg #[.slice a1 l1 c1, .slice a2 l2 c2, .slice a3 l3 c3, .int .i64 nh, .int .i64 nc, .int .i64 nd], .string nm] w fun e w' => e = .returned (.tuple #[.agg #[.string (crAt cs nm).n, .int .i64 (crAt cs nm).m, .int .i64 (crAt cs nm).d], .bool (!decide (ixE (qCr nm) cs < 0))]) ∧ Below w.heap.size w w' := by
  have hz := hr.len_eq
  have hsm := hr.small
  have HR := hide hr
  clear hr
  subst hz
  obtain ⟨W, hW⟩ : ∃ W, W = (w.alloc (Obj.cells #[.slice a1 l1 c1, .slice a2 cs.length c2, .slice a3 l3 c3, .int .i64 nh, .int .i64 nc, .int .i64 nd] 37)).alloc (Obj.cells #[.string ⟨#[]⟩, .int .i64 0, .int .i64 0] 92) := ⟨_, rfl⟩
  have K0 : Hid (Blk W w.heap.size [.slice a1 l1 c1, .slice a2 cs.length c2, .slice a3 l3 c3, .int .i64 nh, .int .i64 nc, .int .i64 nd]) := hide (by rw [hW]; exact blkAt2_0)
  have K1 : Hid (Blk W (w.heap.size + 1) [.string ⟨#[]⟩, .int .i64 0, .int .i64 0]) := hide (by rw [hW]; exact blkAt2_1)
  have B0 : Hid (Below w.heap.size w W) := hide (by rw [hW]; exact bel2 _ _)
  have g1 : W.cell? ⟨w.heap.size, 1, none⟩ = some (.slice a2 cs.length c2) := (unhide K0).c 1 (by simp)
  rw [hW] at g1
  have HW := hide hW
  clear hW
  go_enter Tryz.func128, Tryz.ntmps128
  go_wp2_with fail
  rw [← unhide HW]
  clear HW g1
  go_loopw [11] (fun i wr => ∃ k : Nat, i = .int .i64 k ∧ k ≤ cs.length ∧ Hid (Blk wr (w.heap.size + 1) [.string ⟨#[]⟩, .int .i64 0, .int .i64 0]) ∧ Hid (Below w.heap.size w wr) ∧ Hid (∀ j, j < k → qCr nm (elAt cs j) = false)) (fun i _ => cs.length - (intOf i).toNat)
  case atStart => exact ⟨0, rfl, Nat.zero_le _, K1, B0, hide (fun j hj => by omega)⟩
  case round =>
    clear K0 K1 B0
    obtain ⟨k, rfl, hk, KR, BW, AL⟩ := hrel
    by_cases hlt : k < cs.length
    · obtain ⟨bb, off, rfl, hc⟩ := (unhide HR).at_ k hlt
      have s0 : w.cell? ⟨bb, off + k * 3, none⟩ = some (.string (elAt cs k).n) := hc 0 (by omega)
      have s0 := ((unhide BW).cell (block_lt_of_cell s0)).trans s0
      have s1 : w.cell? ⟨bb, off + k * 3 + 1, none⟩ = some (.int .i64 (elAt cs k).m) := hc 1 (by omega)
      have s1 := ((unhide BW).cell (block_lt_of_cell s1)).trans s1
      have s2 : w.cell? ⟨bb, off + k * 3 + 2, none⟩ = some (.int .i64 (elAt cs k).d) := hc 2 (by omega)
      have s2 := ((unhide BW).cell (block_lt_of_cell s2)).trans s2
      have hi1 : (k : Int) < (cs.length : Int) := by omega
      have hi0 : (0 : Int) ≤ (k : Int) := by omega
      obtain ⟨x, hx⟩ : ∃ x, elAt cs k = x := ⟨_, rfl⟩
      rw [hx] at s0 s1 s2
      have HX := hide hx
      have r0 : wr.cell? ⟨w.heap.size + 1, 0, none⟩ = some (.string ⟨#[]⟩) := (unhide KR).c 0 (by simp)
      have r1 : wr.cell? ⟨w.heap.size + 1, 1, none⟩ = some (.int .i64 0) := (unhide KR).c 1 (by simp)
      have r2 : wr.cell? ⟨w.heap.size + 1, 2, none⟩ = some (.int .i64 0) := (unhide KR).c 2 (by simp)
      have t0 : wr.frozen? ⟨w.heap.size + 1, 0, none⟩ = false := (unhide KR).f 0 (by simp)
      have t1 : wr.frozen? ⟨w.heap.size + 1, 1, none⟩ = false := (unhide KR).f 1 (by simp)
      have t2 : wr.frozen? ⟨w.heap.size + 1, 2, none⟩ = false := (unhide KR).f 2 (by simp)
      have hlt2 := (unhide KR).lt
      have BA := hide ((unhide BW).alloc (unhide BW).size (Obj.cells #[.string x.n, .int .i64 x.m, .int .i64 x.d] 92))
      have KA := hide ((unhide KR).alloc (Obj.cells #[.string x.n, .int .i64 x.m, .int .i64 x.d] 92))
      clear hc hx
      by_cases e : x.n = nm
      · have HE := hide (crAt_yes hlt (by rw [unhide HX]; exact e) (unhide AL))
        have d : (x.n.toList == nm.toList) = true := by rw [e]; simp
        clear e AL KR
        go_wp2_with ((with_reducible show wpList _ _ _ (⟨none, .store 92 (.tmp 4) _, _, _, _, none⟩ :: _) _ _); refine at_storeAgg (us := [.string ⟨#[]⟩, .int .i64 0, .int .i64 0]) (vs := [.string x.n, .int .i64 x.m, .int .i64 x.d]) Tryz.sizeOf92 rfl rfl (unhide KA) rfl (by intro v hv; simp at hv; rcases hv with rfl | rfl | rfl <;> rfl) ?_; intro w5 kk gg)
        have BE : Below w.heap.size w w5 := (unhide BA).grown gg (unhide BA).size (fun q hq => by cases hq; omega)
        exact bodyPost_ret (results_cellB (vs := [.string x.n, .int .i64 x.m, .int .i64 x.d]) rfl Tryz.isAgg92 Tryz.sizeOf92 rfl kk rfl) rfl ⟨ret_cr (by rw [(unhide HE).2, unhide HX]) (by rw [(unhide HE).1]; simp <;> omega), BE⟩
      · have d := txl_no e
        have NX : Hid (∀ j, j < k + 1 → qCr nm (elAt cs j) = false) := hide (fun j hj => by
          by_cases e3 : j = k
          · rw [e3, unhide HX]; exact decide_eq_false e
          · exact (unhide AL) j (by omega))
        clear e AL KR r0 r1 r2 t0 t1 t2
        go_wp2_with fail
        go_roundw
        case rel => exact ⟨k + 1, by go_num, by omega, KA, BA, NX⟩
        case measure => simp [intOf]; omega
    · have hi1 : ¬ (k : Int) < (cs.length : Int) := by omega
      have HE := hide (crAt_no (nm := nm) (fun j hj => (unhide AL) j (by omega)))
      have hlt2 := (unhide KR).lt
      clear AL
      go_wp2_with ((with_reducible show wpList _ _ _ (⟨none, .store 92 (.tmp 4) _, _, _, _, none⟩ :: _) _ _); refine at_storeAgg (us := [.string ⟨#[]⟩, .int .i64 0, .int .i64 0]) (vs := [.string ⟨#[]⟩, .int .i64 0, .int .i64 0]) Tryz.sizeOf92 rfl rfl (unhide KR) rfl (by intro v hv; simp at hv; rcases hv with rfl | rfl <;> rfl) ?_; intro w5 kk gg)
      have BE : Below w.heap.size w w5 := (unhide BW).grown gg (unhide BW).size (fun q hq => by cases hq; omega)
      exact bodyPost_ret (results_cellB (vs := [.string ⟨#[]⟩, .int .i64 0, .int .i64 0]) rfl Tryz.isAgg92 Tryz.sizeOf92 rfl kk rfl) rfl ⟨ret_cr (x := default) (by rw [(unhide HE).2]) (by rw [(unhide HE).1]; simp), BE⟩
set_option maxRecDepth 20000 in
set_option maxHeartbeats 2000000 in
theorem manyOf_any (nh nc nd : Int) (a1 a2 a3 : Option Addr) (l1 c1 l2 c2 l3 c3 : Nat) (ds : List Df) (nm : ByteArray) (w : World) (hr : RowE 3 dfC w a3 l3 ds) (hl : l3 ≤ 100) :
    Calls Tryz.prog 129 #[.agg #[.slice a1 l1 c1, .slice a2 l2 c2, .slice a3 l3 c3, .int .i64 nh, .int .i64 nc, .int .i64 nd], .string nm] w fun e w' => e = .returned (.int .i64 (mnF ds nm)) ∧ Below w.heap.size w w' := by
  have hz := hr.len_eq
  have HR := hide hr
  clear hr
  subst hz
  obtain ⟨W, hW⟩ : ∃ W, W = w.alloc (Obj.cells #[.slice a1 l1 c1, .slice a2 l2 c2, .slice a3 ds.length c3, .int .i64 nh, .int .i64 nc, .int .i64 nd] 37) := ⟨_, rfl⟩
  have K0 : Hid (Blk W w.heap.size [.slice a1 l1 c1, .slice a2 l2 c2, .slice a3 ds.length c3, .int .i64 nh, .int .i64 nc, .int .i64 nd]) := hide (by rw [hW]; exact Blk.new _ _)
  have B0 : Hid (Below w.heap.size w W) := hide (by rw [hW]; exact bel1 _)
  have HW := hide hW
  clear hW
  go_enter Tryz.func129, Tryz.ntmps129
  go_wp2_with fail
  rw [← unhide HW]
  clear HW
  go_loopw [5, 11] (fun m i wr => ∃ k : Nat, m = .int .i64 (mnK ds nm k) ∧ i = .int .i64 k ∧ k ≤ ds.length ∧ Hid (Below w.heap.size w wr)) (fun _ i _ => ds.length - (intOf i).toNat)
  case atStart => exact ⟨0, rfl, rfl, Nat.zero_le _, B0⟩
  case round =>
    clear K0 B0
    obtain ⟨k, rfl, rfl, hk, BW⟩ := hrel
    by_cases hlt : k < ds.length
    · obtain ⟨bb, off, rfl, hc⟩ := (unhide HR).at_ k hlt
      have s0 : w.cell? ⟨bb, off + k * 3, none⟩ = some (.string (elAt ds k).n) := hc 0 (by omega)
      have s0 := ((unhide BW).cell (block_lt_of_cell s0)).trans s0
      have s1 : w.cell? ⟨bb, off + k * 3 + 1, none⟩ = some (.int .i64 (elAt ds k).i) := hc 1 (by omega)
      have s1 := ((unhide BW).cell (block_lt_of_cell s1)).trans s1
      have s2 : w.cell? ⟨bb, off + k * 3 + 2, none⟩ = some (.int .i64 (elAt ds k).s) := hc 2 (by omega)
      have s2 := ((unhide BW).cell (block_lt_of_cell s2)).trans s2
      have hi1 : (k : Int) < (ds.length : Int) := by omega
      have hi0 : (0 : Int) ≤ (k : Int) := by omega
      have hm := mnK_bd ds nm k
      have HS : Hid (mnK ds nm (k + 1) = mnK ds nm k + if (elAt ds k).n = nm then 1 else 0) := hide rfl
      obtain ⟨M, hM⟩ : ∃ m, mnK ds nm k = m := ⟨_, rfl⟩
      rw [hM] at HS hm ⊢
      obtain ⟨x, hx⟩ : ∃ x, elAt ds k = x := ⟨_, rfl⟩
      rw [hx] at s0 s1 s2 HS
      have BA := hide ((unhide BW).alloc (unhide BW).size (Obj.cells #[.string x.n, .int .i64 x.i, .int .i64 x.s] 94))
      clear hc hx hM
      by_cases e : x.n = nm
      · have d : (x.n.toList == nm.toList) = true := by rw [e]; simp
        have HS2 : Hid (mnK ds nm (k + 1) = M + 1) := hide (by rw [unhide HS, if_pos e])
        clear e HS
        go_wp2_with fail
        go_roundw
        case rel => exact ⟨k + 1, by rw [unhide HS2], by go_num, by omega, BA⟩
        case measure => simp [intOf]; omega
      · have d := txl_no e
        have HS2 : Hid (mnK ds nm (k + 1) = M) := hide (by rw [unhide HS, if_neg e]; omega)
        clear e HS
        go_wp2_with fail
        go_roundw
        case rel => exact ⟨k + 1, by rw [unhide HS2], by go_num, by omega, BA⟩
        case measure => simp [intOf]; omega
    · have hi1 : ¬ (k : Int) < (ds.length : Int) := by omega
      have HK : Hid (mnK ds nm k = mnF ds nm) := hide (by rw [mnF, show k = ds.length by omega])
      rw [unhide HK]
      go_wp2_with fail
      go_ret
      exact ⟨rfl, unhide BW⟩

end Go.Proofs.YticdccdkjepifaaGreat
