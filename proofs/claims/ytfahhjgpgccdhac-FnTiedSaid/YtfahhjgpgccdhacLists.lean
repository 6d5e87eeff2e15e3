/-
  The law's copy and comparison of a Source: of one value it says so. No condition.
  The law's size, copy and comparison of a list of Sources. The copy at lists of at most 1048576; nothing that was there is written.
  The law's copy and comparison of a Tie: of one value it says so. No condition.
  The law's size, copy and comparison of a list of Ties. The copy at lists of at most 1048576; nothing that was there is written.
  The law's copy and comparison of a Use: of one value it says so. No condition.
  The law's size, copy and comparison of a list of Uses. The copy at lists of at most 1048576; nothing that was there is written.
  One whole number more behind a list that a call has made, as a law for the walk. At lists of at most 1000000.
  One element more behind a list that a call has made, as a law for a step of a region that draws its order: elements of several cells; sources, ties, uses. At lists of at most 1000.
  A variable in a block of its own: what its cells hold, that none is frozen, that the block is there. No condition.
  The law's mark of a bool: whether the number is a third one. No program here.
  The law's marks in a list of Sources that a call has made: every number gets the next number, and nothing else is written; the marks are found again.
  The law's marks in a list of Ties that a call has made: every number gets the next number, and nothing else is written; the marks are found again.
  The law's marks in a list of Uses that a call has made: every number gets the next number, and nothing else is written; the marks are found again.
  The law's size, copy, comparison and marks of a net. The copy at lists of at most 1048576; nothing that was there is written, the marks only into the net's own lists.
  Plain mathematics: bounds on products, and the lesser neighbour of a place in a list. No program here.
  Whether a net is so, in plain numbers. No program here.
  A whole struct or array that lies in a block of its own, loaded and stored in one step of a walk. No condition.
  A block that another row's growth leaves as it was. No condition.
  What the drawing of a net holds on to: the cursor, the net's block, the three lists. What is plain of a drawn net. No condition.
  Two, three, four variables in blocks of their own, one laid behind the other. No condition.
-/
import Derived.Test.YtfahhjgpgccdhacChecked
import Derived.Test.YtfahhjgpgccdhacBase
import Derived.Test.YtfahhjgpgccdhacRowE
import Derived.Deep.DrawnRows
import Derived.Deep.RegionHeld3
import Derived.Test.YtfahhjgpgccdhacMarkI
import Derived.Deep.AppendLies
import Derived.Laws.Cells
import Derived.Laws.IdiomCopy
import Derived.Test.YtfahhjgpgccdhacDraw

namespace Go.Proofs.Ytfahhjgpgccdhac
open Go.RowKit

/-- What a Source holds. -/
structure Sr where
  a0 : Int
  a1 : Int
  a2 : Bool
instance : Inhabited Sr := ⟨⟨0, 0, false⟩⟩
/-- Its cells. -/
def srC (m : Sr) : Nat → Value
  | 0 => .int .i64 m.a0
  | 1 => .int .i64 m.a1
  | _ => .bool m.a2
def srAlike (m n : Sr) : Prop := m.a0 = n.a0 ∧ m.a1 = n.a1 ∧ m.a2 = n.a2
theorem srAlike_refl (m : Sr) : srAlike m m := ⟨rfl, rfl, rfl⟩
theorem srAlike.symm {m n : Sr} (h : srAlike m n) : srAlike n m := ⟨h.1.symm, h.2.1.symm, h.2.2.symm⟩
theorem srAlike.trans {m n l : Sr} (h : srAlike m n) (g : srAlike n l) : srAlike m l := ⟨h.1.trans g.1, h.2.1.trans g.2.1, h.2.2.trans g.2.2⟩



end Go.Proofs.Ytfahhjgpgccdhac

namespace Go.Proofs.Ytfahhjgpgccdhac
open Go.RowKit
attribute [local go_sem ↓] Go.wp_at_zero Go.wp_at_succ

theorem infoSr : (Try.prog.info? 95).map (fun i => (i.zero, i.size, i.bytes)) = some (some (.agg #[.int .i64 0, .int .i64 0, .bool false]), 3, 24) := by kernel_rfl



end Go.Proofs.Ytfahhjgpgccdhac

namespace Go.Proofs.Ytfahhjgpgccdhac
open Go.RowKit

/-- What a Tie holds. -/
structure Ti where
  a0 : Int
  a1 : Int
  a2 : Bool
instance : Inhabited Ti := ⟨⟨0, 0, false⟩⟩
/-- Its cells. -/
def tiC (m : Ti) : Nat → Value
  | 0 => .int .i64 m.a0
  | 1 => .int .i64 m.a1
  | _ => .bool m.a2
def tiAlike (m n : Ti) : Prop := m.a0 = n.a0 ∧ m.a1 = n.a1 ∧ m.a2 = n.a2
theorem tiAlike_refl (m : Ti) : tiAlike m m := ⟨rfl, rfl, rfl⟩
theorem tiAlike.symm {m n : Ti} (h : tiAlike m n) : tiAlike n m := ⟨h.1.symm, h.2.1.symm, h.2.2.symm⟩
theorem tiAlike.trans {m n l : Ti} (h : tiAlike m n) (g : tiAlike n l) : tiAlike m l := ⟨h.1.trans g.1, h.2.1.trans g.2.1, h.2.2.trans g.2.2⟩



end Go.Proofs.Ytfahhjgpgccdhac

namespace Go.Proofs.Ytfahhjgpgccdhac
open Go.RowKit
attribute [local go_sem ↓] Go.wp_at_zero Go.wp_at_succ

theorem infoTi : (Try.prog.info? 51).map (fun i => (i.zero, i.size, i.bytes)) = some (some (.agg #[.int .i64 0, .int .i64 0, .bool false]), 3, 24) := by kernel_rfl



end Go.Proofs.Ytfahhjgpgccdhac

namespace Go.Proofs.Ytfahhjgpgccdhac
open Go.RowKit

/-- What a Use holds. -/
structure Us where
  a0 : Int
  a1 : Int
  a2 : Int
instance : Inhabited Us := ⟨⟨0, 0, 0⟩⟩
/-- Its cells. -/
def usC (m : Us) : Nat → Value
  | 0 => .int .i64 m.a0
  | 1 => .int .i64 m.a1
  | _ => .int .i64 m.a2
def usAlike (m n : Us) : Prop := m.a0 = n.a0 ∧ m.a1 = n.a1 ∧ m.a2 = n.a2
theorem usAlike_refl (m : Us) : usAlike m m := ⟨rfl, rfl, rfl⟩
theorem usAlike.symm {m n : Us} (h : usAlike m n) : usAlike n m := ⟨h.1.symm, h.2.1.symm, h.2.2.symm⟩
theorem usAlike.trans {m n l : Us} (h : usAlike m n) (g : usAlike n l) : usAlike m l := ⟨h.1.trans g.1, h.2.1.trans g.2.1, h.2.2.trans g.2.2⟩



end Go.Proofs.Ytfahhjgpgccdhac

namespace Go.Proofs.Ytfahhjgpgccdhac
open Go.RowKit
attribute [local go_sem ↓] Go.wp_at_zero Go.wp_at_succ

theorem infoUs : (Try.prog.info? 83).map (fun i => (i.zero, i.size, i.bytes)) = some (some (.agg #[.int .i64 0, .int .i64 0, .int .i64 0]), 3, 24) := by kernel_rfl



end Go.Proofs.Ytfahhjgpgccdhac

namespace Go.Proofs.Ytfahhjgpgccdhac
open Go.RowKit

theorem grownBy_alloc_then {w w' : World} {o : Obj} {row : Option Nat} (h : (w.alloc o).grownBy w' row) : w.grownBy w' row :=
  ⟨h.os, h.tape, h.output, Nat.le_trans (by simp) h.size, fun k hk hne => (h.block k (Nat.lt_of_lt_of_le hk (by simp)) hne).trans (Below.heap_alloc _ _ _ hk)⟩
theorem wpList_app_int {ops : Array Oper} {rest : List Oper} {o : Oper} {a : Act} {Q : Exit → Act → World → Prop} (hgd : o.guard = none) (s xo : Operand)
    (ho : o.op = .call { callee := .builtin .append, args := #[s, xo], argTypes := #[46, 46] }) {wr : World} {base n : Nat} {v : Value} {zs : List Int} (x : Int) (hO : OwnI wr base v zs) (hn : zs.length = n) (hs : a.eval s = v)
    {H : Nat} (hH : wr.heap.size = H) (hx : a.eval xo = .slice (some ⟨H, 0, none⟩) 1 1) (hb : base ≤ wr.heap.size) (hsm : n ≤ 1000000) (hf : -9223372036854775808 ≤ x ∧ x ≤ 9223372036854775807)
    (h : ∀ g cap w', OwnI w' base (.slice (some ⟨g, 0, none⟩) (n + 1) cap) (zs ++ [x]) → wr.grownBy w' v.ownBlock → wpList Try.prog ops Q rest (a.put o.dst (.slice (some ⟨g, 0, none⟩) (n + 1) cap)) w') :
    wpList Try.prog ops Q (o :: rest) a (wr.alloc (Obj.cells #[.int .i64 x] 3)) := by
  subst hn
  subst hH
  obtain ⟨vs, hown, hvx⟩ := hO.own
  have hbA := bel1 (w := wr) (Obj.cells #[.int .i64 x] 3)
  have hownA := ownsRow_below hown hbA
  have hnews := World.news_of_block (heap_alloc_new wr (Obj.cells #[.int .i64 x] 3))
  obtain ⟨i0, hii, hz0, hz1, hz2⟩ := info_parts info_int1
  refine wpList_append_lies _ hgd s xo 46 ho base 3 i0 (.int .i64 0) 1 8 Try.underlying46 hii hz0 hz1 hz2 rfl (by decide) v zs.length vs hs hownA ⟨wr.heap.size, 0, none⟩ 1 1 [.int .i64 x] hx rfl hnews (by simp [Value.oneCell']) (by decide) (by unfold maxLen; omega) (by omega) (by simp; omega) _ rfl ?_
  intro g cap w' h1 h2 _ _
  exact h g cap w' (ownI_app h1 hown.1 hvx hO.fit hf) (grownBy_alloc_then h2)

end Go.Proofs.Ytfahhjgpgccdhac

namespace Go.Proofs.Ytfahhjgpgccdhac
open Go.RowKit

theorem step_app_el {α : Type} [Inhabited α] {K : Nat} {cells : α → Nat → Value} {ops : Array Oper} {o : Oper} {a : Act} {L : Act → World → Prop} {Q : Exit → Act → World → Prop} {E : Prop} (hgd : o.guard = none) (s xo : Operand) (sT eT : TypeId)
    (ho : o.op = .call { callee := .builtin .append, args := #[s, xo], argTypes := #[sT, sT] }) (hU : Try.prog.underlying sT = some (.slice eT)) {z : Value} {bytes : Nat} (hI : (Try.prog.info? eT).map (fun i => (i.zero, i.size, i.bytes)) = some (some z, K, bytes)) (hz : z.cells.size = K) (hK : 0 < K) (hby : bytes ≤ 1000)
    {wr : World} {base n : Nat} {v : Value} {zs : List α} (x : α) (us : List Value) (hul : us.length = K) (hux : ∀ q, q < K → us[q]? = some (cells x q)) (hu1 : ∀ u ∈ us, u.oneCell' = true) (hO : OwnE K cells wr base eT v zs) (hn : zs.length = n) (hs : a.eval s = v)
    {H : Nat} (hH : wr.heap.size = H) (hx : a.eval xo = .slice (some ⟨H, 0, none⟩) 1 1) (hb : base ≤ wr.heap.size) (hsm : n ≤ 1000)
    (h : ∀ g cap w', OwnE K cells w' base eT (.slice (some ⟨g, 0, none⟩) (n + 1) cap) (zs ++ [x]) → wr.grownBy w' v.ownBlock → (v.ownBlock = some g ∨ wr.heap.size < g) → L (a.put o.dst (.slice (some ⟨g, 0, none⟩) (n + 1) cap)) w') :
    if Region.wanted o (yielded ops a.tmps) = true then Oper.wp Try.prog o a (wr.alloc (Obj.cells us.toArray eT)) L Q else E := by
  subst hn
  subst hH
  obtain ⟨vs, hown, hvx⟩ := hO.own
  have hbA := bel1 (w := wr) (Obj.cells us.toArray eT)
  have hownA := ownsRow_below hown hbA
  have hnews := World.news_of_block (heap_alloc_new wr (Obj.cells us.toArray eT))
  obtain ⟨i0, hii, hz0, hz1, hz2⟩ := info_parts hI
  have hm : (zs.length + 1) * bytes ≤ 1001 * 1000 := Nat.mul_le_mul (by omega) hby
  refine step_append_lies _ hgd s xo sT ho base eT i0 z K bytes hU hii hz0 hz1 hz2 hz hK v zs.length vs hs hownA ⟨wr.heap.size, 0, none⟩ 1 1 us hx (by rw [hul, Nat.one_mul]) (by simpa using hnews) hu1 (by decide) (by unfold maxLen; omega) (by omega) (by simp; omega) _ rfl ?_
  intro g cap w' h1 h2 h3 _
  refine h g cap w' (ownE_app h1 hown.1 hvx hux) (grownBy_alloc_then h2) ?_
  rcases h3 with h3 | h3
  · exact .inl h3
  · right; rw [h3]; simp
theorem step_app_sr {ops : Array Oper} {o : Oper} {a : Act} {L : Act → World → Prop} {Q : Exit → Act → World → Prop} {E : Prop} (hgd : o.guard = none) (s xo : Operand)
    (ho : o.op = .call { callee := .builtin .append, args := #[s, xo], argTypes := #[40, 40] }) {wr : World} {base n : Nat} {v : Value} {zs : List Sr} {p q : Int} {b : Bool} (hO : OwnE 3 srC wr base 95 v zs) (hn : zs.length = n) (hs : a.eval s = v)
    {H : Nat} (hH : wr.heap.size = H) (hx : a.eval xo = .slice (some ⟨H, 0, none⟩) 1 1) (hb : base ≤ wr.heap.size) (hsm : n ≤ 1000)
    (h : ∀ g cap w', OwnE 3 srC w' base 95 (.slice (some ⟨g, 0, none⟩) (n + 1) cap) (zs ++ [⟨p, q, b⟩]) → wr.grownBy w' v.ownBlock → (v.ownBlock = some g ∨ wr.heap.size < g) → L (a.put o.dst (.slice (some ⟨g, 0, none⟩) (n + 1) cap)) w') :
    if Region.wanted o (yielded ops a.tmps) = true then Oper.wp Try.prog o a (wr.alloc (Obj.cells #[.int .i64 p, .int .i64 q, .bool b] 95)) L Q else E :=
  step_app_el hgd s xo _ _ ho Try.underlying40 infoSr rfl (by decide) (by decide) ⟨p, q, b⟩ [.int .i64 p, .int .i64 q, .bool b] rfl (fun j hj => by rcases (by omega : j = 0 ∨ j = 1 ∨ j = 2) with rfl | rfl | rfl <;> rfl) (by simp [Value.oneCell']) hO hn hs hH hx hb hsm h
theorem step_app_ti {ops : Array Oper} {o : Oper} {a : Act} {L : Act → World → Prop} {Q : Exit → Act → World → Prop} {E : Prop} (hgd : o.guard = none) (s xo : Operand)
    (ho : o.op = .call { callee := .builtin .append, args := #[s, xo], argTypes := #[41, 41] }) {wr : World} {base n : Nat} {v : Value} {zs : List Ti} {p q : Int} {b : Bool} (hO : OwnE 3 tiC wr base 51 v zs) (hn : zs.length = n) (hs : a.eval s = v)
    {H : Nat} (hH : wr.heap.size = H) (hx : a.eval xo = .slice (some ⟨H, 0, none⟩) 1 1) (hb : base ≤ wr.heap.size) (hsm : n ≤ 1000)
    (h : ∀ g cap w', OwnE 3 tiC w' base 51 (.slice (some ⟨g, 0, none⟩) (n + 1) cap) (zs ++ [⟨p, q, b⟩]) → wr.grownBy w' v.ownBlock → (v.ownBlock = some g ∨ wr.heap.size < g) → L (a.put o.dst (.slice (some ⟨g, 0, none⟩) (n + 1) cap)) w') :
    if Region.wanted o (yielded ops a.tmps) = true then Oper.wp Try.prog o a (wr.alloc (Obj.cells #[.int .i64 p, .int .i64 q, .bool b] 51)) L Q else E :=
  step_app_el hgd s xo _ _ ho Try.underlying41 infoTi rfl (by decide) (by decide) ⟨p, q, b⟩ [.int .i64 p, .int .i64 q, .bool b] rfl (fun j hj => by rcases (by omega : j = 0 ∨ j = 1 ∨ j = 2) with rfl | rfl | rfl <;> rfl) (by simp [Value.oneCell']) hO hn hs hH hx hb hsm h
theorem step_app_us {ops : Array Oper} {o : Oper} {a : Act} {L : Act → World → Prop} {Q : Exit → Act → World → Prop} {E : Prop} (hgd : o.guard = none) (s xo : Operand)
    (ho : o.op = .call { callee := .builtin .append, args := #[s, xo], argTypes := #[42, 42] }) {wr : World} {base n : Nat} {v : Value} {zs : List Us} {p q : Int} {b : Int} (hO : OwnE 3 usC wr base 83 v zs) (hn : zs.length = n) (hs : a.eval s = v)
    {H : Nat} (hH : wr.heap.size = H) (hx : a.eval xo = .slice (some ⟨H, 0, none⟩) 1 1) (hb : base ≤ wr.heap.size) (hsm : n ≤ 1000)
    (h : ∀ g cap w', OwnE 3 usC w' base 83 (.slice (some ⟨g, 0, none⟩) (n + 1) cap) (zs ++ [⟨p, q, b⟩]) → wr.grownBy w' v.ownBlock → (v.ownBlock = some g ∨ wr.heap.size < g) → L (a.put o.dst (.slice (some ⟨g, 0, none⟩) (n + 1) cap)) w') :
    if Region.wanted o (yielded ops a.tmps) = true then Oper.wp Try.prog o a (wr.alloc (Obj.cells #[.int .i64 p, .int .i64 q, .int .i64 b] 83)) L Q else E :=
  step_app_el hgd s xo _ _ ho Try.underlying42 infoUs rfl (by decide) (by decide) ⟨p, q, b⟩ [.int .i64 p, .int .i64 q, .int .i64 b] rfl (fun j hj => by rcases (by omega : j = 0 ∨ j = 1 ∨ j = 2) with rfl | rfl | rfl <;> rfl) (by simp [Value.oneCell']) hO hn hs hH hx hb hsm h

end Go.Proofs.Ytfahhjgpgccdhac

namespace Go.Proofs.Ytfahhjgpgccdhac
open Go.RowKit

structure Blk (w : World) (B : Nat) (vs : List Value) : Prop where
  c : ∀ i (h : i < vs.length), w.cell? ⟨B, i, none⟩ = some vs[i]
  f : ∀ i, i < vs.length → w.frozen? ⟨B, i, none⟩ = false
  lt : B < w.heap.size
theorem Blk.below {w w' : World} {B : Nat} {vs : List Value} (h : Blk w B vs) (k : Below w.heap.size w w') : Blk w' B vs :=
  ⟨fun i hi => (k.cell (p := ⟨B, i, none⟩) h.lt).trans (h.c i hi), fun i hi => (k.frozen (p := ⟨B, i, none⟩) h.lt).trans (h.f i hi), Nat.lt_of_lt_of_le h.lt k.size⟩
theorem Blk.drewN {w : World} {B : Nat} {vs : List Value} (h : Blk w B vs) (n : Nat) : Blk (w.drewN n) B vs := h.below (bel0d n)
theorem Blk.alloc {w : World} {B : Nat} {vs : List Value} (h : Blk w B vs) (o : Obj) : Blk (w.alloc o) B vs := h.below (bel1 o)
theorem Blk.new {w : World} (vs : List Value) (T : TypeId) : Blk (w.alloc (Obj.cells vs.toArray T)) w.heap.size vs :=
  ⟨fun i hi => by simp [go_sem, hi], fun i _ => by simp [go_sem], by simp⟩
theorem Blk.other {w : World} {B : Nat} {vs : List Value} (h : Blk w B vs) {p : Addr} (hp : p.block ≠ B) (v : Value) : Blk (w.setCell p v) B vs :=
  ⟨fun i hi => (World.cell?_setCell_other w _ _ _ (by intro e; rw [e] at hp; exact hp rfl)).trans (h.c i hi), fun i hi => by simp [h.f i hi], by simpa [World.setCell] using h.lt⟩
theorem Blk.set {w : World} {B : Nat} {vs : List Value} (h : Blk w B vs) (i : Nat) (hi : i < vs.length) (v : Value) : Blk (w.setCell ⟨B, i, none⟩ v) B (vs.set i v) := by
  refine ⟨fun j hj => ?_, fun j hj => by simpa using h.f j (by simpa using hj), by simpa [World.setCell] using h.lt⟩
  have hj' : j < vs.length := by simpa using hj
  by_cases e : i = j
  · subst e
    rw [List.getElem_set_self]
    exact World.cell?_setCell_same _ _ _ (h.c i hi)
  · rw [List.getElem_set_ne e]
    exact (World.cell?_setCell_other w _ _ _ (by intro k; simp only [Addr.mk.injEq] at k; omega)).trans (h.c j hj')

end Go.Proofs.Ytfahhjgpgccdhac

namespace Go.Proofs.Ytfahhjgpgccdhac

abbrev third (n : Int) : Bool := n % 3 == 0

end Go.Proofs.Ytfahhjgpgccdhac

namespace Go.Proofs.Ytfahhjgpgccdhac
open Go.RowKit

def mkSr (n : Int) : Sr := ⟨(n), (n + 1), third (n + 1 + 1)⟩



end Go.Proofs.Ytfahhjgpgccdhac

namespace Go.Proofs.Ytfahhjgpgccdhac
open Go.RowKit

def mkTi (n : Int) : Ti := ⟨(n), (n + 1), third (n + 1 + 1)⟩



end Go.Proofs.Ytfahhjgpgccdhac

namespace Go.Proofs.Ytfahhjgpgccdhac
open Go.RowKit

def mkUs (n : Int) : Us := ⟨(n), (n + 1), (n + 1 + 1)⟩



end Go.Proofs.Ytfahhjgpgccdhac

namespace Go.Proofs.Ytfahhjgpgccdhac
open Go.RowKit

/-- A net's three lists, read. -/
structure NetIn (w : World) (a1 a2 a3 : Option Addr) (l1 l2 l3 : Nat) (ss : List Sr) (ts : List Ti) (us : List Us) : Prop where
  r1 : RowE 3 srC w a1 l1 ss
  r2 : RowE 3 tiC w a2 l2 ts
  r3 : RowE 3 usC w a3 l3 us
theorem NetIn.below {w w' : World} {a1 a2 a3 : Option Addr} {l1 l2 l3 : Nat} {ss : List Sr} {ts : List Ti} {us : List Us} (h : NetIn w a1 a2 a3 l1 l2 l3 ss ts us) (k : Below w.heap.size w w') : NetIn w' a1 a2 a3 l1 l2 l3 ss ts us :=
  ⟨h.r1.below k, h.r2.below k, h.r3.below k⟩
/-- A net's three lists that a call has made, each in a block of its own. -/
structure NetOwn (w : World) (base : Nat) (g1 g2 g3 l1 l2 l3 : Nat) (ss : List Sr) (ts : List Ti) (us : List Us) : Prop where
  o1 : OwnE 3 srC w base 95 (.slice (some ⟨g1, 0, none⟩) l1 l1) ss
  o2 : OwnE 3 tiC w base 51 (.slice (some ⟨g2, 0, none⟩) l2 l2) ts
  o3 : OwnE 3 usC w base 83 (.slice (some ⟨g3, 0, none⟩) l3 l3) us
  n12 : g1 < g2
  n23 : g2 < g3
theorem NetOwn.below {w w' : World} {base g1 g2 g3 l1 l2 l3 : Nat} {ss : List Sr} {ts : List Ti} {us : List Us} (h : NetOwn w base g1 g2 g3 l1 l2 l3 ss ts us) (k : Below w.heap.size w w') : NetOwn w' base g1 g2 g3 l1 l2 l3 ss ts us :=
  ⟨h.o1.below k, h.o2.below k, h.o3.below k, h.n12, h.n23⟩
theorem NetOwn.mono {w : World} {base base' g1 g2 g3 l1 l2 l3 : Nat} {ss : List Sr} {ts : List Ti} {us : List Us} (h : NetOwn w base g1 g2 g3 l1 l2 l3 ss ts us) (hb : base' ≤ base) : NetOwn w base' g1 g2 g3 l1 l2 l3 ss ts us :=
  ⟨h.o1.mono hb, h.o2.mono hb, h.o3.mono hb, h.n12, h.n23⟩
theorem NetOwn.read {w : World} {base g1 g2 g3 l1 l2 l3 : Nat} {ss : List Sr} {ts : List Ti} {us : List Us} (h : NetOwn w base g1 g2 g3 l1 l2 l3 ss ts us) : NetIn w (some ⟨g1, 0, none⟩) (some ⟨g2, 0, none⟩) (some ⟨g3, 0, none⟩) l1 l2 l3 ss ts us :=
  ⟨h.o1.row, h.o2.row, h.o3.row⟩

theorem alike_all_sr (ss : List Sr) : ∀ i, i < ss.length → srAlike (elAt ss i) (elAt ss i) := fun _ _ => srAlike_refl _
theorem alike_all_ti (ts : List Ti) : ∀ i, i < ts.length → tiAlike (elAt ts i) (elAt ts i) := fun _ _ => tiAlike_refl _
theorem alike_all_us (us : List Us) : ∀ i, i < us.length → usAlike (elAt us i) (elAt us i) := fun _ _ => usAlike_refl _

end Go.Proofs.Ytfahhjgpgccdhac

namespace Go.Proofs.Ytfahhjgpgccdhac

theorem mulBd {s d A B : Int} (h1 : -A ≤ s) (h2 : s ≤ A) (h3 : -B ≤ d) (h4 : d ≤ B) (_hA : 0 ≤ A) (_hB : 0 ≤ B) : -(A * B) ≤ s * d ∧ s * d ≤ A * B := by
  have e1 : 0 ≤ (A - s) * (B - d) := Int.mul_nonneg (by omega) (by omega)
  have e2 : 0 ≤ (A + s) * (B + d) := Int.mul_nonneg (by omega) (by omega)
  have e3 : 0 ≤ (A - s) * (B + d) := Int.mul_nonneg (by omega) (by omega)
  have e4 : 0 ≤ (A + s) * (B - d) := Int.mul_nonneg (by omega) (by omega)
  simp only [Int.sub_mul, Int.add_mul, Int.mul_sub, Int.mul_add] at e1 e2 e3 e4
  constructor <;> omega

/-- Whether the place of the lesser neighbour is behind i. -/
def beyond (zs : List Int) (x : Int) (i : Nat) : Bool := decide (i + 2 < zs.length ∧ nth zs (i + 1) ≤ x)
def lowAt (zs : List Int) (x : Int) : Nat := ((List.range zs.length).find? fun i => !beyond zs x i).getD 0

theorem beyond_true {zs : List Int} {x : Int} {i : Nat} (h : i + 2 < zs.length) (h' : nth zs (i + 1) ≤ x) : beyond zs x i = true := by
  simp only [beyond, decide_eq_true_eq]; exact ⟨h, h'⟩
theorem beyond_end {zs : List Int} {x : Int} {i : Nat} (h : ¬ i + 2 < zs.length) : beyond zs x i = false := by
  simp only [beyond, decide_eq_false_iff_not]; exact fun k => h k.1
theorem beyond_less {zs : List Int} {x : Int} {i : Nat} (h : ¬ nth zs (i + 1) ≤ x) : beyond zs x i = false := by
  simp only [beyond, decide_eq_false_iff_not]; exact fun k => h k.2
theorem lowAt_is {zs : List Int} {x : Int} {k : Nat} (hk : k < zs.length) (h : beyond zs x k = false) (hb : ∀ j, j < k → beyond zs x j = true) : lowAt zs x = k := by
  unfold lowAt
  have : (List.range zs.length).find? (fun i => !beyond zs x i) = some k := by
    rw [List.find?_range_eq_some]
    refine ⟨by simp [h], by simpa using hk, fun j hj => ?_⟩
    simp [hb j hj]
  rw [this]; rfl

/-- The lesser neighbour has one behind it. -/
theorem lowAt_lt {zs : List Int} {x : Int} (h : 2 ≤ zs.length) : lowAt zs x + 2 ≤ zs.length := by
  have he : beyond zs x (zs.length - 2) = false := beyond_end (by omega)
  unfold lowAt
  cases hf : (List.range zs.length).find? (fun i => !beyond zs x i) with
  | none => simp; omega
  | some i =>
    rw [List.find?_range_eq_some] at hf
    have := hf.2.2 (zs.length - 2)
    rw [he] at this
    simp only [Option.getD_some]
    by_cases c : zs.length - 2 < i
    · have := this c; simp at this
    · omega

/-- The products and sums of one value between two neighbours. -/
theorem between_bd {x0 x1 y0 y1 x B C : Int} (h1 : -B ≤ x0 ∧ x0 ≤ B) (h2 : -B ≤ x1 ∧ x1 ≤ B) (h3 : -C ≤ y0 ∧ y0 ≤ C) (h4 : -C ≤ y1 ∧ y1 ≤ C) (h5 : -B ≤ x ∧ x ≤ B) :
    (-(C * (2 * B)) ≤ y0 * (x1 - x0) ∧ y0 * (x1 - x0) ≤ C * (2 * B)) ∧ (-(2 * C * (2 * B)) ≤ (y1 - y0) * (x - x0) ∧ (y1 - y0) * (x - x0) ≤ 2 * C * (2 * B)) := by
  exact ⟨mulBd (by omega) (by omega) (by omega) (by omega) (by omega) (by omega), mulBd (by omega) (by omega) (by omega) (by omega) (by omega) (by omega)⟩

theorem ret_pair1 {k : IntKind} {a b : Int} {c : Bool} (h : a = b) : Ending.returned (.tuple #[.int k a, .bool c]) = .returned (.tuple #[.int k b, .bool c]) := by rw [h]

theorem ret_ib {a b : Int} {c d : Bool} (h : a = b) (h2 : c = d) : Ending.returned (.tuple #[.int .i64 a, .bool c]) = .returned (.tuple #[.int .i64 b, .bool d]) := by rw [h, h2]

theorem in_facts {x a b : Int} (h : inB x a b = true) : a ≤ x ∧ x ≤ b := by simpa [inB] using h

end Go.Proofs.Ytfahhjgpgccdhac

namespace Go.Proofs.Ytfahhjgpgccdhac
open Go

/-- Whether all of a list are so. -/
def everyB {α : Type} [Inhabited α] (P : α → Bool) (ps : List α) : Bool := decide (∀ i, i < ps.length → P (elAt ps i) = true)
theorem everyB_true {α : Type} [Inhabited α] {P : α → Bool} {ps : List α} (h : ∀ i, i < ps.length → P (elAt ps i) = true) : everyB P ps = true := decide_eq_true h
theorem everyB_at {α : Type} [Inhabited α] {P : α → Bool} {ps : List α} (h : everyB P ps = true) {i : Nat} (hi : i < ps.length) : P (elAt ps i) = true := of_decide_eq_true h i hi
theorem everyB_false {α : Type} [Inhabited α] {P : α → Bool} {ps : List α} {i : Nat} (hi : i < ps.length) (h : P (elAt ps i) = false) : everyB P ps = false := by
  cases e : everyB P ps with
  | false => rfl
  | true => rw [everyB_at e hi] at h; cases h

def srB (n : Int) (s : Sr) : Bool := inB s.a0 0 (n - 1) && inB s.a1 0 100000
def tiB (n : Int) (t : Ti) : Bool := inB t.a0 0 (n - 1) && inB t.a1 0 (n - 1) && !(t.a0 == t.a1)
def usB (n : Int) (u : Us) : Bool := inB u.a0 0 (n - 1) && inB u.a1 1 100000 && inB u.a2 0 9
def ssB (n : Int) (ss : List Sr) : Bool := decide (ss.length ≤ 6) && everyB (srB n) ss
def tsB (n : Int) (ts : List Ti) : Bool := decide (ts.length ≤ 16) && everyB (tiB n) ts
def unB (n : Int) (us : List Us) : Bool := decide (us.length ≤ 40) && everyB (usB n) us
/-- Whether a net is so. -/
def netB (n : Int) (ss : List Sr) (ts : List Ti) (us : List Us) : Bool := inB n 1 8 && ssB n ss && tsB n ts && unB n us

theorem netB_no {n : Int} {ss : List Sr} {ts : List Ti} {us : List Us} (h : inB n 1 8 = false ∨ ssB n ss = false ∨ tsB n ts = false ∨ unB n us = false) : netB n ss ts us = false := by
  rcases h with h | h | h | h <;> simp [netB, h]
theorem netB_yes {n : Int} {ss : List Sr} {ts : List Ti} {us : List Us} (h0 : inB n 1 8 = true) (h1 : ssB n ss = true) (h2 : tsB n ts = true) (h3 : unB n us = true) : netB n ss ts us = true := by
  simp [netB, h0, h1, h2, h3]
theorem netB_parts {n : Int} {ss : List Sr} {ts : List Ti} {us : List Us} (h : netB n ss ts us = true) : inB n 1 8 = true ∧ ssB n ss = true ∧ tsB n ts = true ∧ unB n us = true := by
  simp only [netB, Bool.and_eq_true] at h
  exact ⟨h.1.1.1, h.1.1.2, h.1.2, h.2⟩
theorem ssB_long {n : Int} {ss : List Sr} (h : 6 < ss.length) : ssB n ss = false := by simp [ssB]; omega
theorem tsB_long {n : Int} {ts : List Ti} (h : 16 < ts.length) : tsB n ts = false := by simp [tsB]; omega
theorem unB_long {n : Int} {us : List Us} (h : 40 < us.length) : unB n us = false := by simp [unB]; omega
theorem ssB_at {n : Int} {ss : List Sr} {i : Nat} (hi : i < ss.length) (h : srB n (elAt ss i) = false) : ssB n ss = false := by simp [ssB, everyB_false hi h]
theorem tsB_at {n : Int} {ts : List Ti} {i : Nat} (hi : i < ts.length) (h : tiB n (elAt ts i) = false) : tsB n ts = false := by simp [tsB, everyB_false hi h]
theorem unB_at {n : Int} {us : List Us} {i : Nat} (hi : i < us.length) (h : usB n (elAt us i) = false) : unB n us = false := by simp [unB, everyB_false hi h]
theorem ssB_yes {n : Int} {ss : List Sr} (h : ss.length ≤ 6) (h2 : ∀ i, i < ss.length → srB n (elAt ss i) = true) : ssB n ss = true := by simp [ssB, h, everyB_true h2]
theorem tsB_yes {n : Int} {ts : List Ti} (h : ts.length ≤ 16) (h2 : ∀ i, i < ts.length → tiB n (elAt ts i) = true) : tsB n ts = true := by simp [tsB, h, everyB_true h2]
theorem unB_yes {n : Int} {us : List Us} (h : us.length ≤ 40) (h2 : ∀ i, i < us.length → usB n (elAt us i) = true) : unB n us = true := by simp [unB, h, everyB_true h2]

end Go.Proofs.Ytfahhjgpgccdhac

namespace Go.Proofs.Ytfahhjgpgccdhac
open Go.RowKit

theorem addr0 (B j : Nat) : (⟨B, 0, none⟩ : Addr).add j = ⟨B, j, none⟩ := by unfold Addr.add; simp; exact fun h => h.symm
theorem run_loadVar {t : TypeId} {w : World} {B : Nat} {vs : List Value} (hA : ∀ w, (isAgg t).run Try.prog w = .ok true w) (hZ : ∀ w, (Go.sizeOf t).run Try.prog w = .ok vs.length w) (hb : Blk w B vs) :
    (loadVar t ⟨B, 0, none⟩).run Try.prog w = .ok (.agg vs.toArray) w := by
  have hl := run_loadCells_list (P := Try.prog) (w := w) ⟨B, 0, none⟩ vs (fun j v hj => by
    obtain ⟨h, e⟩ := List.getElem?_eq_some_iff.1 hj
    rw [addr0, ← e]; exact hb.c j h)
  unfold loadVar
  simp [hA, hZ, hl]
theorem Blk.setCells {w : World} {B : Nat} {us vs : List Value} (h : Blk w B us) (hl : us.length = vs.length) : Blk (w.setCells B 0 vs) B vs ∧ w.grownBy (w.setCells B 0 vs) (some B) := by
  have gr : ∀ (vs : List Value) (o : Nat) (w : World), w.grownBy (w.setCells B o vs) (some B) := by
    intro vs
    induction vs with
    | nil => intro o w; exact ⟨rfl, rfl, rfl, Nat.le_refl _, fun _ _ _ => rfl⟩
    | cons v r ih =>
      intro o w
      have h1 := ih (o + 1) (w.setCell ⟨B, o, none⟩ v)
      refine ⟨h1.os, h1.tape, h1.output, Nat.le_trans (by simp [World.setCell]) h1.size, fun k hk hne => ?_⟩
      have hkB : k ≠ B := fun e => hne (by rw [e])
      exact (h1.block k (by simpa [World.setCell] using hk) hne).trans (Below.heap_setCell _ _ _ _ hkB)
  refine ⟨⟨fun i hi => ?_, fun i hi => ?_, Nat.lt_of_lt_of_le h.lt (gr vs 0 w).size⟩, gr vs 0 w⟩
  · have := World.cell?_setCells_in B vs 0 w (fun j hj => by rw [Nat.zero_add, h.c j (by omega)]; rfl) i hi
    simpa using this
  · rw [World.frozen?_setCells]; exact h.f i (by omega)
theorem run_storeVar {t : TypeId} {w : World} {B : Nat} {us vs : List Value} (hZ : ∀ w, (Go.sizeOf t).run Try.prog w = .ok vs.length w) (hl : us.length = vs.length) (h1 : ∀ v ∈ vs, v.oneCell' = true) (hb : Blk w B us) :
    (storeVar t ⟨B, 0, none⟩ (.agg vs.toArray)).run Try.prog w = .ok () (w.setCells B 0 vs) := by
  have hs := run_storeCells_cells (P := Try.prog) B 0 vs 0 w (fun j hj => by rw [show 0 + 0 + j = j by omega, hb.c j (by omega)]; rfl) (fun j hj => by rw [show 0 + 0 + j = j by omega]; exact hb.f j (by omega)) h1
  unfold storeVar
  simp [hZ, Value.cells, hs]

theorem at_loadAgg {ops : Array Oper} {rest : List Oper} {d : Option Tmp} {t ty : TypeId} {s : Operand} {pos : String} {af : Array Edge} {a : Act} {Q : Exit → Act → World → Prop} {w : World} {B : Nat} {vs : List Value}
    (hA : ∀ w, (isAgg t).run Try.prog w = .ok true w) (hZ : ∀ w, (Go.sizeOf t).run Try.prog w = .ok vs.length w) (hs : a.eval s = .pointer (some ⟨B, 0, none⟩)) (hb : Blk w B vs)
    (hK : wpList Try.prog ops Q rest (a.put d (.agg vs.toArray)) w) : wpList Try.prog ops Q (⟨d, .load t s, ty, pos, af, none⟩ :: rest) a w := by
  refine wpList_plain rfl fun K hK' => ?_
  have hr := run_loadVar hA hZ hb
  unfold Oper.wp
  simp [execOp, hs, Instr.loadAt, Instr.sureAddr, hr, Result.andThen]
  exact hK' _ _ hK
theorem at_storeAgg {ops : Array Oper} {rest : List Oper} {t ty : TypeId} {s x : Operand} {pos : String} {af : Array Edge} {a : Act} {Q : Exit → Act → World → Prop} {w : World} {B : Nat} {us vs : List Value}
    (hZ : ∀ w, (Go.sizeOf t).run Try.prog w = .ok vs.length w) (hs : a.eval s = .pointer (some ⟨B, 0, none⟩)) (hx : a.eval x = .agg vs.toArray) (hb : Blk w B us) (hl : us.length = vs.length) (h1 : ∀ v ∈ vs, v.oneCell' = true)
    (hK : ∀ w2, Blk w2 B vs → w.grownBy w2 (some B) → wpList Try.prog ops Q rest a w2) : wpList Try.prog ops Q (⟨none, .store t s x, ty, pos, af, none⟩ :: rest) a w := by
  refine wpList_plain rfl fun K hK' => ?_
  have hr := run_storeVar hZ hl h1 hb
  have h2 := hb.setCells hl
  unfold Oper.wp
  simp [execOp, hs, hx, Instr.storeAt, Instr.sureAddr, hr, Result.andThen]
  exact hK' _ _ (hK _ h2.1 h2.2)

/-- A result that stands in such a block. -/
theorem results_cell {fn : Func} {p : Tmp} {t : TypeId} {tmps : Array Value} {w : World} {B : Nat} {vs : List Value} (h : fn.results = #[.cell p t]) (hA : ∀ w, (isAgg t).run Try.prog w = .ok true w) (hZ : ∀ w, (Go.sizeOf t).run Try.prog w = .ok vs.length w)
    (hp : tmps.getD p undef = .pointer (some ⟨B, 0, none⟩)) (hb : Blk w B vs) : (results fn tmps).run Try.prog w = .ok (.agg vs.toArray) w := by
  have hr := run_loadVar hA hZ hb
  have hp' : tmps[p]?.getD undef = .pointer (some ⟨B, 0, none⟩) := by simpa using hp
  simp only [results, h]
  simp [hp', asAddr, hr]

end Go.Proofs.Ytfahhjgpgccdhac

namespace Go.Proofs.Ytfahhjgpgccdhac
open Go.RowKit

theorem Blk.apart {w w' : World} {B : Nat} {vs : List Value} {row : Option Nat} (h : Blk w B vs) (k : w.grownBy w' row) (hne : some B ≠ row) : Blk w' B vs := by
  have hb := k.block B h.lt hne
  refine ⟨fun i hi => (World.cell?_of_block (a := ⟨B, i, none⟩) hb).trans (h.c i hi), fun i hi => ?_, Nat.lt_of_lt_of_le h.lt k.size⟩
  have h2 := h.f i hi
  unfold World.frozen? at h2 ⊢
  simp only at h2 ⊢
  rw [hb]; exact h2

/-- A result that stands in a block, and one behind it. -/
theorem results_cellB {fn : Func} {p q : Tmp} {t : TypeId} {tmps : Array Value} {w : World} {B : Nat} {vs : List Value} {x : Value} (h : fn.results = #[.cell p t, .tmp q]) (hA : ∀ w, (isAgg t).run Try.prog w = .ok true w) (hZ : ∀ w, (Go.sizeOf t).run Try.prog w = .ok vs.length w)
    (hp : tmps.getD p undef = .pointer (some ⟨B, 0, none⟩)) (hb : Blk w B vs) (hq : tmps.getD q undef = x) : (results fn tmps).run Try.prog w = .ok (.tuple #[.agg vs.toArray, x]) w := by
  have hr := run_loadVar hA hZ hb
  have hp' : tmps[p]?.getD undef = .pointer (some ⟨B, 0, none⟩) := by simpa using hp
  have hq' : tmps[q]?.getD undef = x := by simpa using hq
  simp only [results, h]
  simp [hp', hq', asAddr, hr]

end Go.Proofs.Ytfahhjgpgccdhac

namespace Go.Proofs.Ytfahhjgpgccdhac
open Go.RowKit

theorem ownE_nl {α : Type} [Inhabited α] {K : Nat} {cells : α → Nat → Value} (w : World) (base : Nat) (T : TypeId) : OwnE K cells w base T (.slice none 0 0) ([] : List α) :=
  ⟨⟨[], by simpa using World.ownsRow_nil w base T K, fun j hj => by simp at hj⟩⟩
structure Nt (w : World) (C R B : Nat) (a : Option Addr) (len cap : Nat) (W : World) (N : Int) (v1 v2 v3 : Value) (ss : List Sr) (ts : List Ti) (us : List Us) : Prop where
  d : Dr w C a len cap W
  inn : ∀ b off, a = some ⟨b, off, none⟩ → b < w.heap.size
  cb : C < R ∧ R < B
  r : Blk W R [.int .i64 0, .slice none 0 0, .slice none 0 0, .slice none 0 0]
  p : Blk W B [.int .i64 N, v1, v2, v3]
  o1 : OwnE 3 srC W (B + 1) 95 v1 ss
  o2 : OwnE 3 tiC W (B + 1) 51 v2 ts
  o3 : OwnE 3 usC W (B + 1) 83 v3 us
  n12 : ∀ g, v1.ownBlock = some g → v2.ownBlock ≠ some g
  n13 : ∀ g, v1.ownBlock = some g → v3.ownBlock ≠ some g
  n23 : ∀ g, v2.ownBlock = some g → v3.ownBlock ≠ some g
theorem Nt.below {w : World} {C R B : Nat} {a : Option Addr} {len cap : Nat} {W W' : World} {N : Int} {v1 v2 v3 : Value} {ss : List Sr} {ts : List Ti} {us : List Us} (h : Nt w C R B a len cap W N v1 v2 v3 ss ts us) (k : Below W.heap.size W W') : Nt w C R B a len cap W' N v1 v2 v3 ss ts us :=
  ⟨h.d.below k, h.inn, h.cb, h.r.below k, h.p.below k, h.o1.below k, h.o2.below k, h.o3.below k, h.n12, h.n13, h.n23⟩
/-- Behind a drawing. -/
theorem Nt.call {w : World} {C R B : Nat} {a : Option Addr} {len cap : Nat} {W W' : World} {N : Int} {v1 v2 v3 : Value} {ss : List Sr} {ts : List Ti} {us : List Us} (h : Nt w C R B a len cap W N v1 v2 v3 ss ts us) (k : W.grownBy W' (some C)) (d : Dr w C a len cap W') : Nt w C R B a len cap W' N v1 v2 v3 ss ts us := by
  have cb := h.cb
  exact ⟨d, h.inn, h.cb, h.r.apart k (fun e => by have := Option.some.inj e; omega), h.p.apart k (fun e => by have := Option.some.inj e; omega), h.o1.far k (fun g hg e => by have := Option.some.inj e; have := (h.o1.lies g hg).1; omega), h.o2.far k (fun g hg e => by have := Option.some.inj e; have := (h.o2.lies g hg).1; omega), h.o3.far k (fun g hg e => by have := Option.some.inj e; have := (h.o3.lies g hg).1; omega), h.n12, h.n13, h.n23⟩
theorem Nt.here {w : World} {C R B : Nat} {a : Option Addr} {len cap : Nat} {W : World} {N : Int} {v1 v2 v3 : Value} {ss : List Sr} {ts : List Ti} {us : List Us} (h : Nt w C R B a len cap W N v1 v2 v3 ss ts us) : B + 1 ≤ W.heap.size := h.p.lt
theorem setD {w : World} {C : Nat} {a : Option Addr} {len cap : Nat} {W : World} (h : Dr w C a len cap W) {B i : Nat} {v : Value} (hB : C < B) (hin : ∀ b off, a = some ⟨b, off, none⟩ → b < w.heap.size) : Dr w C a len cap (W.setCell ⟨B, i, none⟩ v) :=
  h.own (grown_set (grown_refl W (some B)) i v) (fun k hk => by have := Option.some.inj hk; omega) hin
theorem Nt.push1 {w : World} {C R B : Nat} {a : Option Addr} {len cap : Nat} {W W' : World} {N : Int} {v1 v2 v3 : Value} {ss : List Sr} {ts : List Ti} {us : List Us} {g n c : Nat} {ps : List Sr} (h : Nt w C R B a len cap W N v1 v2 v3 ss ts us) (o : OwnE 3 srC W' (B + 1) 95 (.slice (some ⟨g, 0, none⟩) n c) ps) (k : W.grownBy W' v1.ownBlock) (hat : v1.ownBlock = some g ∨ W.heap.size < g) :
    Nt w C R B a len cap (W'.setCell ⟨B, 1, none⟩ (.slice (some ⟨g, 0, none⟩) n c)) N (.slice (some ⟨g, 0, none⟩) n c) v2 v3 ps ts us := by
  have cb := h.cb
  have row : ∀ q, v1.ownBlock = some q → B < q := fun q hq => by have := (h.o1.lies q hq).1; omega
  have lg := (o.lies g rfl).1
  have m2 : ∀ q, v2.ownBlock = some q → some q ≠ v1.ownBlock := fun q hq e => h.n12 q e.symm hq
  have x2 : ∀ q, v2.ownBlock = some q → q ≠ g := fun q hq e => by
    rcases hat with e2 | e2
    · rw [← e] at e2; exact m2 q hq e2.symm
    · have := (h.o2.lies q hq).2; omega
  have m3 : ∀ q, v3.ownBlock = some q → some q ≠ v1.ownBlock := fun q hq e => h.n13 q e.symm hq
  have x3 : ∀ q, v3.ownBlock = some q → q ≠ g := fun q hq e => by
    rcases hat with e2 | e2
    · rw [← e] at e2; exact m3 q hq e2.symm
    · have := (h.o3.lies q hq).2; omega
  refine ⟨setD (h.d.own k (fun q hq => by have := row q hq; omega) h.inn) (by omega) h.inn, h.inn, cb, (h.r.apart k (fun e => by have := row R e.symm; omega)).other (by simp; omega) _, ?_, ?_, ?_, ?_, ?_, ?_, ?_⟩
  · have := (h.p.apart k (fun e => by have := row B e.symm; omega)).set 1 (by simp) (.slice (some ⟨g, 0, none⟩) n c)
    simpa using this
  · exact o.set_other _ (fun e => by have := Option.some.inj (show some g = some B from e); omega)
  · exact (h.o2.far k (m2)).set_other _ (fun e => by have := (h.o2.lies B e).1; omega)
  · exact (h.o3.far k (m3)).set_other _ (fun e => by have := (h.o3.lies B e).1; omega)
  · exact fun q hq e => x2 q e (Option.some.inj (show some g = some q from hq)).symm
  · exact fun q hq e => x3 q e (Option.some.inj (show some g = some q from hq)).symm
  · exact h.n23
theorem Nt.push2 {w : World} {C R B : Nat} {a : Option Addr} {len cap : Nat} {W W' : World} {N : Int} {v1 v2 v3 : Value} {ss : List Sr} {ts : List Ti} {us : List Us} {g n c : Nat} {ps : List Ti} (h : Nt w C R B a len cap W N v1 v2 v3 ss ts us) (o : OwnE 3 tiC W' (B + 1) 51 (.slice (some ⟨g, 0, none⟩) n c) ps) (k : W.grownBy W' v2.ownBlock) (hat : v2.ownBlock = some g ∨ W.heap.size < g) :
    Nt w C R B a len cap (W'.setCell ⟨B, 2, none⟩ (.slice (some ⟨g, 0, none⟩) n c)) N v1 (.slice (some ⟨g, 0, none⟩) n c) v3 ss ps us := by
  have cb := h.cb
  have row : ∀ q, v2.ownBlock = some q → B < q := fun q hq => by have := (h.o2.lies q hq).1; omega
  have lg := (o.lies g rfl).1
  have m1 : ∀ q, v1.ownBlock = some q → some q ≠ v2.ownBlock := fun q hq e => h.n12 q hq e.symm
  have x1 : ∀ q, v1.ownBlock = some q → q ≠ g := fun q hq e => by
    rcases hat with e2 | e2
    · rw [← e] at e2; exact m1 q hq e2.symm
    · have := (h.o1.lies q hq).2; omega
  have m3 : ∀ q, v3.ownBlock = some q → some q ≠ v2.ownBlock := fun q hq e => h.n23 q e.symm hq
  have x3 : ∀ q, v3.ownBlock = some q → q ≠ g := fun q hq e => by
    rcases hat with e2 | e2
    · rw [← e] at e2; exact m3 q hq e2.symm
    · have := (h.o3.lies q hq).2; omega
  refine ⟨setD (h.d.own k (fun q hq => by have := row q hq; omega) h.inn) (by omega) h.inn, h.inn, cb, (h.r.apart k (fun e => by have := row R e.symm; omega)).other (by simp; omega) _, ?_, ?_, ?_, ?_, ?_, ?_, ?_⟩
  · have := (h.p.apart k (fun e => by have := row B e.symm; omega)).set 2 (by simp) (.slice (some ⟨g, 0, none⟩) n c)
    simpa using this
  · exact (h.o1.far k (m1)).set_other _ (fun e => by have := (h.o1.lies B e).1; omega)
  · exact o.set_other _ (fun e => by have := Option.some.inj (show some g = some B from e); omega)
  · exact (h.o3.far k (m3)).set_other _ (fun e => by have := (h.o3.lies B e).1; omega)
  · exact fun q hq e => x1 q hq (Option.some.inj (show some g = some q from e)).symm
  · exact h.n13
  · exact fun q hq e => x3 q e (Option.some.inj (show some g = some q from hq)).symm
theorem Nt.push3 {w : World} {C R B : Nat} {a : Option Addr} {len cap : Nat} {W W' : World} {N : Int} {v1 v2 v3 : Value} {ss : List Sr} {ts : List Ti} {us : List Us} {g n c : Nat} {ps : List Us} (h : Nt w C R B a len cap W N v1 v2 v3 ss ts us) (o : OwnE 3 usC W' (B + 1) 83 (.slice (some ⟨g, 0, none⟩) n c) ps) (k : W.grownBy W' v3.ownBlock) (hat : v3.ownBlock = some g ∨ W.heap.size < g) :
    Nt w C R B a len cap (W'.setCell ⟨B, 3, none⟩ (.slice (some ⟨g, 0, none⟩) n c)) N v1 v2 (.slice (some ⟨g, 0, none⟩) n c) ss ts ps := by
  have cb := h.cb
  have row : ∀ q, v3.ownBlock = some q → B < q := fun q hq => by have := (h.o3.lies q hq).1; omega
  have lg := (o.lies g rfl).1
  have m1 : ∀ q, v1.ownBlock = some q → some q ≠ v3.ownBlock := fun q hq e => h.n13 q hq e.symm
  have x1 : ∀ q, v1.ownBlock = some q → q ≠ g := fun q hq e => by
    rcases hat with e2 | e2
    · rw [← e] at e2; exact m1 q hq e2.symm
    · have := (h.o1.lies q hq).2; omega
  have m2 : ∀ q, v2.ownBlock = some q → some q ≠ v3.ownBlock := fun q hq e => h.n23 q hq e.symm
  have x2 : ∀ q, v2.ownBlock = some q → q ≠ g := fun q hq e => by
    rcases hat with e2 | e2
    · rw [← e] at e2; exact m2 q hq e2.symm
    · have := (h.o2.lies q hq).2; omega
  refine ⟨setD (h.d.own k (fun q hq => by have := row q hq; omega) h.inn) (by omega) h.inn, h.inn, cb, (h.r.apart k (fun e => by have := row R e.symm; omega)).other (by simp; omega) _, ?_, ?_, ?_, ?_, ?_, ?_, ?_⟩
  · have := (h.p.apart k (fun e => by have := row B e.symm; omega)).set 3 (by simp) (.slice (some ⟨g, 0, none⟩) n c)
    simpa using this
  · exact (h.o1.far k (m1)).set_other _ (fun e => by have := (h.o1.lies B e).1; omega)
  · exact (h.o2.far k (m2)).set_other _ (fun e => by have := (h.o2.lies B e).1; omega)
  · exact o.set_other _ (fun e => by have := Option.some.inj (show some g = some B from e); omega)
  · exact h.n12
  · exact fun q hq e => x1 q hq (Option.some.inj (show some g = some q from e)).symm
  · exact fun q hq e => x2 q hq (Option.some.inj (show some g = some q from e)).symm
/-- Elements that are so. -/
theorem every_app {α : Type} [Inhabited α] {P : α → Bool} {ps : List α} {x : α} (h : ∀ i, i < ps.length → P (elAt ps i) = true) (hx : P x = true) : ∀ i, i < (ps ++ [x]).length → P (elAt (ps ++ [x]) i) = true := by
  intro i hi
  obtain ⟨h1, h2⟩ := elAt_app ps x
  by_cases e : i < ps.length
  · rw [h1 i e]; exact h i e
  · obtain rfl : i = ps.length := by simp at hi; omega
    rw [h2]; exact hx
theorem tie_other {N a y : Int} (hN : 2 ≤ N) (ha : 0 ≤ a ∧ a < N) (hy : 0 ≤ y ∧ y < N - 1) : 0 ≤ (a + 1 + y).tmod N ∧ (a + 1 + y).tmod N < N ∧ (a + 1 + y).tmod N ≠ a := by
  rw [Int.tmod_eq_emod_of_nonneg (by omega)]
  have h1 := Int.emod_nonneg (a + 1 + y) (show N ≠ 0 by omega)
  have h2 := Int.emod_lt_of_pos (a + 1 + y) (show 0 < N by omega)
  refine ⟨h1, h2, fun e => ?_⟩
  rcases (show a + 1 + y < N ∨ N ≤ a + 1 + y by omega) with h | h
  · rw [Int.emod_eq_of_lt (by omega) h] at e; omega
  · have : (a + 1 + y) % N = a + 1 + y - N := by
      rw [show a + 1 + y = (a + 1 + y - N) + N by omega, Int.add_emod_right, Int.emod_eq_of_lt (by omega) (by omega)]; omega
    omega
theorem good_tie {N xa xy M : Int} {xc : Bool} (hN : 2 ≤ N) (hN5 : N ≤ 5) (ha : 0 ≤ xa ∧ xa < N) (hM : M = N - 1) (hy : 0 ≤ xy ∧ xy < M) : tiB N ⟨xa, (IntKind.i64.wrap (IntKind.i64.wrap (xa + 1) + xy)).tmod N, xc⟩ = true := by
  subst hM
  have e1 : IntKind.i64.wrap (xa + 1) = xa + 1 := by rw [IntKind.wrap_i64]; omega
  have e2 : IntKind.i64.wrap (xa + 1 + xy) = xa + 1 + xy := by rw [IntKind.wrap_i64]; omega
  rw [e1, e2]
  obtain ⟨h1, h2, h3⟩ := tie_other hN ha hy
  simp [tiB, inB]
  exact ⟨⟨by omega, by omega, by omega⟩, fun e => h3 e.symm⟩
theorem good_use {N xb xp xr : Int} (hb : 0 ≤ xb ∧ xb < N) (hp : 0 ≤ xp ∧ xp < 20) (hr : 0 ≤ xr ∧ xr < 4) : usB N ⟨xb, IntKind.i64.wrap (1 + xp), xr⟩ = true := by
  have e1 : IntKind.i64.wrap (1 + xp) = 1 + xp := by rw [IntKind.wrap_i64]; omega
  rw [e1]
  simp [usB, inB]; omega
theorem OwnE.rowAny {α : Type} [Inhabited α] {K : Nat} {cells : α → Nat → Value} {w : World} {base : Nat} {T : TypeId} {v : Value} {ps : List α} (h : OwnE K cells w base T v ps) : ∃ a c, v = .slice a ps.length c ∧ RowE K cells w a ps.length ps := by
  obtain ⟨a, c, e, _, r⟩ := h.slice
  exact ⟨a, c, e, r⟩
/-- A net's lists that a call has made. -/
structure NtO (w : World) (base : Nat) (a1 a2 a3 : Option Addr) (l1 c1 l2 c2 l3 c3 : Nat) (ss : List Sr) (ts : List Ti) (us : List Us) : Prop where
  o1 : OwnE 3 srC w base 95 (.slice a1 l1 c1) ss
  o2 : OwnE 3 tiC w base 51 (.slice a2 l2 c2) ts
  o3 : OwnE 3 usC w base 83 (.slice a3 l3 c3) us
theorem NtO.read {w : World} {base : Nat} {a1 a2 a3 : Option Addr} {l1 c1 l2 c2 l3 c3 : Nat} {ss : List Sr} {ts : List Ti} {us : List Us} (h : NtO w base a1 a2 a3 l1 c1 l2 c2 l3 c3 ss ts us) : NetIn w a1 a2 a3 l1 l2 l3 ss ts us := ⟨h.o1.row, h.o2.row, h.o3.row⟩
theorem NtO.far {w w' : World} {base q : Nat} {a1 a2 a3 : Option Addr} {l1 c1 l2 c2 l3 c3 : Nat} {ss : List Sr} {ts : List Ti} {us : List Us} (h : NtO w base a1 a2 a3 l1 c1 l2 c2 l3 c3 ss ts us) (k : w.grownBy w' (some q)) (hq : q < base) : NtO w' base a1 a2 a3 l1 c1 l2 c2 l3 c3 ss ts us :=
  ⟨h.o1.far k (fun g hg e => by have := Option.some.inj e; have := (h.o1.lies g hg).1; omega), h.o2.far k (fun g hg e => by have := Option.some.inj e; have := (h.o2.lies g hg).1; omega), h.o3.far k (fun g hg e => by have := Option.some.inj e; have := (h.o3.lies g hg).1; omega)⟩
theorem NtO.mono {w : World} {base base' : Nat} {a1 a2 a3 : Option Addr} {l1 c1 l2 c2 l3 c3 : Nat} {ss : List Sr} {ts : List Ti} {us : List Us} (h : NtO w base a1 a2 a3 l1 c1 l2 c2 l3 c3 ss ts us) (hb : base' ≤ base) : NtO w base' a1 a2 a3 l1 c1 l2 c2 l3 c3 ss ts us := ⟨h.o1.mono hb, h.o2.mono hb, h.o3.mono hb⟩
/-- What a drawn net is told as. -/
def NetDrawn (w : World) (base : Nat) (e : Ending) (w' : World) : Prop := ∃ (N : Int) (a1 a2 a3 : Option Addr) (l1 c1 l2 c2 l3 c3 : Nat) (ss : List Sr) (ts : List Ti) (us : List Us), e = .returned (.agg #[.int .i64 N, .slice a1 l1 c1, .slice a2 l2 c2, .slice a3 l3 c3]) ∧ NtO w' base a1 a2 a3 l1 c1 l2 c2 l3 c3 ss ts us ∧ netB N ss ts us = true ∧ Below w.heap.size w w'

end Go.Proofs.Ytfahhjgpgccdhac

namespace Go.Proofs.Ytfahhjgpgccdhac
open Go.RowKit

theorem Blk.next {w : World} {B : Nat} (vs : List Value) (T : TypeId) (h : w.heap.size = B) : Blk (w.alloc (Obj.cells vs.toArray T)) B vs := by
  subst h; exact Blk.new vs T
theorem blkAt2_0 {w : World} {v1 v2 : List Value} {T1 T2 : TypeId} : Blk ((w.alloc (Obj.cells v1.toArray T1)).alloc (Obj.cells v2.toArray T2)) w.heap.size v1 := (Blk.new v1 T1).alloc _
theorem blkAt2_1 {w : World} {v1 v2 : List Value} {T1 T2 : TypeId} : Blk ((w.alloc (Obj.cells v1.toArray T1)).alloc (Obj.cells v2.toArray T2)) (w.heap.size + 1) v2 := Blk.next v2 T2 (by simp)
theorem blkAt3_0 {w : World} {v1 v2 v3 : List Value} {T1 T2 T3 : TypeId} : Blk (((w.alloc (Obj.cells v1.toArray T1)).alloc (Obj.cells v2.toArray T2)).alloc (Obj.cells v3.toArray T3)) w.heap.size v1 := blkAt2_0.alloc _
theorem blkAt3_1 {w : World} {v1 v2 v3 : List Value} {T1 T2 T3 : TypeId} : Blk (((w.alloc (Obj.cells v1.toArray T1)).alloc (Obj.cells v2.toArray T2)).alloc (Obj.cells v3.toArray T3)) (w.heap.size + 1) v2 := blkAt2_1.alloc _
theorem blkAt3_2 {w : World} {v1 v2 v3 : List Value} {T1 T2 T3 : TypeId} : Blk (((w.alloc (Obj.cells v1.toArray T1)).alloc (Obj.cells v2.toArray T2)).alloc (Obj.cells v3.toArray T3)) (w.heap.size + 1 + 1) v3 := Blk.next v3 T3 (by simp)

end Go.Proofs.Ytfahhjgpgccdhac
