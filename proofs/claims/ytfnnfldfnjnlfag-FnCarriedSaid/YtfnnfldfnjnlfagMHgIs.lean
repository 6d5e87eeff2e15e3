/-
  A hangar in memory: its lock, a fleet's lists in memory of their own. No condition.
  A slice of slices of whole numbers read as a list of lists, and the law's size, comparison and copy of it (szIntSS, eqIntSS, toIntSS). No condition but the length at most 1048576 where it is copied.
-/
import Derived.Test.YtfnnfldfnjnlfagMOnly
import Derived.Test.YtfnnfldfnjnlfagMWhole
import Derived.Test.YtfnnfldfnjnlfagMBlk

namespace Go.Proofs.Ytfnnfldfnjnlfag
open Go Go.RowKit

/-- A hangar at block G whose lock's word is m; what it holds lies from base on. -/
structure Hg (w : World) (base G : Nat) (m : Int) (a1 a2 a3 : Option Addr) (c1 c2 c3 : Nat) (ts : List Ts) (cs : List Cr) (ds : List Df) (nh nc nd : Int) : Prop where
  blk : Blk w G [.int .i32 m, .int .u32 0, .slice a1 ts.length c1, .slice a2 cs.length c2, .slice a3 ds.length c3, .int .i64 nh, .int .i64 nc, .int .i64 nd]
  own : FlOwn w base a1 a2 a3 ts.length c1 cs.length c2 ds.length c3 ts cs ds
  low : base ≤ G
  n1 : (Value.slice a1 ts.length c1).ownBlock ≠ some G
  n2 : (Value.slice a2 cs.length c2).ownBlock ≠ some G
  n3 : (Value.slice a3 ds.length c3).ownBlock ≠ some G
  s3 : a3 ≠ none
theorem Hg.below {w w' : World} {base G : Nat} {m : Int} {a1 a2 a3 : Option Addr} {c1 c2 c3 : Nat} {ts : List Ts} {cs : List Cr} {ds : List Df} {nh nc nd : Int} (h : Hg w base G m a1 a2 a3 c1 c2 c3 ts cs ds nh nc nd) (k : Below w.heap.size w w') : Hg w' base G m a1 a2 a3 c1 c2 c3 ts cs ds nh nc nd :=
  ⟨h.blk.below k, h.own.below k, h.low, h.n1, h.n2, h.n3, h.s3⟩
theorem Hg.size {w : World} {base G : Nat} {m : Int} {a1 a2 a3 : Option Addr} {c1 c2 c3 : Nat} {ts : List Ts} {cs : List Cr} {ds : List Df} {nh nc nd : Int} (h : Hg w base G m a1 a2 a3 c1 c2 c3 ts cs ds nh nc nd) : base ≤ w.heap.size := by
  have := h.blk.lt
  have := h.low
  omega
/-- The lock's word set. -/
theorem Hg.lock {w : World} {base G : Nat} {m : Int} {a1 a2 a3 : Option Addr} {c1 c2 c3 : Nat} {ts : List Ts} {cs : List Cr} {ds : List Df} {nh nc nd : Int} (h : Hg w base G m a1 a2 a3 c1 c2 c3 ts cs ds nh nc nd) (m' : Int) : Hg (w.setCell ⟨G, 0, none⟩ (.int .i32 m')) base G m' a1 a2 a3 c1 c2 c3 ts cs ds nh nc nd :=
  ⟨h.blk.set 0 (by simp) _, h.own.set_other _ h.n1 h.n2 h.n3, h.low, h.n1, h.n2, h.n3, h.s3⟩
/-- The clock set. -/
theorem Hg.now {w : World} {base G : Nat} {m : Int} {a1 a2 a3 : Option Addr} {c1 c2 c3 : Nat} {ts : List Ts} {cs : List Cr} {ds : List Df} {nh nc nd : Int} (h : Hg w base G m a1 a2 a3 c1 c2 c3 ts cs ds nh nc nd) (x y z : Int) : Hg (((w.setCell ⟨G, 5, none⟩ (.int .i64 x)).setCell ⟨G, 6, none⟩ (.int .i64 y)).setCell ⟨G, 7, none⟩ (.int .i64 z)) base G m a1 a2 a3 c1 c2 c3 ts cs ds x y z :=
  ⟨((h.blk.set 5 (by simp) _).set 6 (by simp) _).set 7 (by simp) _, ((h.own.set_other _ h.n1 h.n2 h.n3).set_other _ h.n1 h.n2 h.n3).set_other _ h.n1 h.n2 h.n3, h.low, h.n1, h.n2, h.n3, h.s3⟩
/-- Lists of unlike elements lie apart. -/
theorem own_ne {α β : Type} [Inhabited α] [Inhabited β] {K K' : Nat} {cells : α → Nat → Value} {cells' : β → Nat → Value} {w : World} {base base' : Nat} {T T' : TypeId} {v v' : Value} {ps : List α} {qs : List β} (h : OwnE K cells w base T v ps) (h' : OwnE K' cells' w base' T' v' qs) (hT : T ≠ T') : ∀ g, v.ownBlock = some g → v'.ownBlock ≠ some g := by
  intro g hg hg'
  obtain ⟨xs, ho, _⟩ := h.own
  obtain ⟨ys, ho', _⟩ := h'.own
  rcases ho.2 with ⟨e, _⟩ | ⟨g1, c1, cur1, rfl, _, hb1, _⟩
  · rw [e] at hg; simp [Value.ownBlock] at hg
  rcases ho'.2 with ⟨e, _⟩ | ⟨g2, c2, cur2, rfl, _, hb2, _⟩
  · rw [e] at hg'; simp [Value.ownBlock] at hg'
  have e1 : g1 = g := Option.some.inj hg
  have e2 : g2 = g := Option.some.inj hg'
  rw [e1] at hb1
  rw [e2, hb1] at hb2
  simp only [Option.some.injEq, Obj.cells.injEq] at hb2
  exact hT hb2.2.1
/-- Another list of defects put in its place. -/
theorem Hg.defects {w w' : World} {base G : Nat} {m : Int} {a1 a2 a3 a4 : Option Addr} {c1 c2 c3 c4 : Nat} {ts : List Ts} {cs : List Cr} {ds es : List Df} {nh nc nd : Int} (h : Hg w base G m a1 a2 a3 c1 c2 c3 ts cs ds nh nc nd) (gr : w.grownBy w' (Value.slice a3 ds.length c3).ownBlock)
    (o : OwnE 3 dfC w' base 56 (.slice a4 es.length c4) es) (ng : (Value.slice a4 es.length c4).ownBlock ≠ some G) (s4 : a4 ≠ none) :
    Hg (w'.setCell ⟨G, 4, none⟩ (.slice a4 es.length c4)) base G m a1 a2 a4 c1 c2 c4 ts cs es nh nc nd := by
  have b' := h.blk.apart gr (fun e => h.n3 e.symm)
  have p1 := h.own.o1.far gr (fun g hg e => h.own.p13 g hg e.symm)
  have p2 := h.own.o2.far gr (fun g hg e => h.own.p23 g hg e.symm)
  exact ⟨b'.set 4 (by simp) _, ⟨p1.set_other _ h.n1, p2.set_other _ h.n2, o.set_other _ ng, h.own.p12, own_ne p1 o (by decide), own_ne p2 o (by decide)⟩, h.low, h.n1, h.n2, ng, s4⟩
/-- A list of defects that is not empty lies apart from a hangar. -/
theorem Hg.apart {w w' : World} {base G : Nat} {m : Int} {a1 a2 a3 : Option Addr} {c1 c2 c3 : Nat} {ts : List Ts} {cs : List Cr} {ds es : List Df} {nh nc nd : Int} (h : Hg w base G m a1 a2 a3 c1 c2 c3 ts cs ds nh nc nd) (gr : w.grownBy w' (Value.slice a3 ds.length c3).ownBlock) {g n c : Nat}
    (o : OwnE 3 dfC w' base 56 (.slice (some ⟨g, 0, none⟩) n c) es) (hn : es.length = n) (h0 : 0 < n) : g ≠ G := by
  intro e
  subst e
  have b' := h.blk.apart gr (fun e => h.n3 e.symm)
  have c0 := b'.c 0 (by simp)
  have c1 := (o.here hn 0 h0 0 (by omega)).1
  rw [Nat.zero_mul, Nat.zero_add, c0] at c1
  simp [dfC] at c1
/-- A hangar, wherever its lists lie. -/
def HgE (w : World) (base G : Nat) (m : Int) (f : Fl) : Prop := ∃ a1 a2 a3 c1 c2 c3, Hg w base G m a1 a2 a3 c1 c2 c3 f.ts f.cs f.ds f.nh f.nc f.nd
/-- A hangar's own blocks. -/
def hz (G : Nat) (a1 a2 a3 : Option Addr) (b : Nat) : Prop := b = G ∨ (Value.slice a1 0 0).ownBlock = some b ∨ (Value.slice a2 0 0).ownBlock = some b ∨ (Value.slice a3 0 0).ownBlock = some b
theorem apz {w w' : World} (G : Nat) (a1 a2 a3 : Option Addr) (h : Below w.heap.size w w') : Aps (hz G a1 a2 a3) w w' := Aps.of_below h
theorem hz_G {G : Nat} {a1 a2 a3 : Option Addr} : hz G a1 a2 a3 G := .inl rfl
theorem hz_1 {G g : Nat} {a2 a3 : Option Addr} : hz G (some ⟨g, 0, none⟩) a2 a3 g := .inr (.inl rfl)
theorem hz_3 {G g : Nat} {a1 a2 : Option Addr} : hz G a1 a2 (some ⟨g, 0, none⟩) g := .inr (.inr (.inr rfl))
theorem own_len (a : Option Addr) (l c l' c' : Nat) : (Value.slice a l c).ownBlock = (Value.slice a l' c').ownBlock := by rcases a with _ | ⟨b, _ | o, _ | r⟩ <;> rfl
theorem Hg.hz_low {w : World} {base G : Nat} {m : Int} {a1 a2 a3 : Option Addr} {c1 c2 c3 : Nat} {ts : List Ts} {cs : List Cr} {ds : List Df} {nh nc nd : Int} (h : Hg w base G m a1 a2 a3 c1 c2 c3 ts cs ds nh nc nd) : ∀ k, hz G a1 a2 a3 k → base ≤ k := by
  rintro k (rfl | e | e | e)
  · exact h.low
  · exact (h.own.o1.lies k ((own_len _ _ _ _ _).trans e)).1
  · exact (h.own.o2.lies k ((own_len _ _ _ _ _).trans e)).1
  · exact (h.own.o3.lies k ((own_len _ _ _ _ _).trans e)).1
/-- Texts that can be there. -/
structure FitF (f : Fl) : Prop where
  t : ∀ i, fitT (elAt f.ts i).nm
  c : ∀ i, fitT (elAt f.cs i).n
  d : ∀ i, fitT (elAt f.ds i).n

end Go.Proofs.Ytfnnfldfnjnlfag

namespace Go.Proofs.Ytfnnfldfnjnlfag
open Go.RowKit

def nthS (zss : List (List Int)) (i : Nat) : List Int := zss[i]?.getD []

structure RowS (w : World) (a : Option Addr) (len : Nat) (zss : List (List Int)) : Prop where
  len_eq : zss.length = len
  small : len ≤ 9223372036854775807
  cells : ∀ i, i < len → ∃ b off ai li ci, a = some ⟨b, off, none⟩ ∧ w.cell? ⟨b, off + i, none⟩ = some (.slice ai li ci) ∧ Row w ai li (nthS zss i) ∧ li ≤ ci

theorem RowS.open_ {w : World} {a : Option Addr} {len : Nat} {zss : List (List Int)} (h : RowS w a len zss) :
    (len = 0 ∧ zss = []) ∨ ∃ b off, a = some ⟨b, off, none⟩ ∧ 0 < len ∧ ∀ i, i < len → ∃ ai li ci, w.cell? ⟨b, off + i, none⟩ = some (.slice ai li ci) ∧ Row w ai li (nthS zss i) ∧ li ≤ ci := by
  by_cases h0 : len = 0
  · exact .inl ⟨h0, List.length_eq_zero_iff.1 (by rw [h.len_eq, h0])⟩
  · obtain ⟨b, off, _, _, _, ha, _⟩ := h.cells 0 (by omega)
    refine .inr ⟨b, off, ha, by omega, fun i hi => ?_⟩
    obtain ⟨b', off', ai, li, ci, ha', hc⟩ := h.cells i hi
    rw [ha] at ha'
    simp only [Option.some.injEq, Addr.mk.injEq] at ha'
    obtain ⟨rfl, rfl, _⟩ := ha'
    exact ⟨ai, li, ci, hc⟩

theorem RowS.below {w w' : World} {a : Option Addr} {len : Nat} {zss : List (List Int)} (h : RowS w a len zss) (k : Below w.heap.size w w') : RowS w' a len zss := by
  refine ⟨h.len_eq, h.small, fun i hi => ?_⟩
  obtain ⟨b, off, ai, li, ci, ha, hc, hr, hl⟩ := h.cells i hi
  exact ⟨b, off, ai, li, ci, ha, (k.cell (block_lt_of_cell hc)).trans hc, hr.below k, hl⟩
theorem RowS.alloc {w : World} {a : Option Addr} {len : Nat} {zss : List (List Int)} (h : RowS w a len zss) (o : Obj) : RowS (w.alloc o) a len zss := h.below (bel1 o)
theorem RowS.drewN {w : World} {a : Option Addr} {len : Nat} {zss : List (List Int)} (h : RowS w a len zss) (n : Nat) : RowS (w.drewN n) a len zss := h.below (bel0d n)

/-! The size. -/
/-! The comparison, of what reads alike. -/
end Go.Proofs.Ytfnnfldfnjnlfag
