/-
  A fleet's lists, read; made by a call, each in memory of its own; where they lie. No condition.
  A hangar in memory: its lock, a fleet's lists in memory of their own. No condition.
  The sums by which FnKept looks at rows and items, and that a fleet that is so has texts that can be there. No program here.
  What is due next, in plain lists. No program here.
  What is plain of a fleet that is so: each task can be asked; what Release lets fly has no task due and each defect on the list; the next one due. No program here.
-/
import Derived.Test.YtfnnfldfnjnlfagMWrOrd
import Derived.Test.YtfnnfldfnjnlfagMOwnI
import Derived.Test.YtfnnfldfnjnlfagMSmall
import Derived.Test.YtfnnfldfnjnlfagMWhole

namespace Go.Proofs.Ytfnnfldfnjnlfag
open Go.RowKit

/-- Its lists, read. -/
structure FlIn (w : World) (a1 a2 a3 : Option Addr) (l1 l2 l3 : Nat) (z1 : List Ts) (z2 : List Cr) (z3 : List Df) : Prop where
  r1 : RowE 7 tsC w a1 l1 z1
  r2 : RowE 3 crC w a2 l2 z2
  r3 : RowE 3 dfC w a3 l3 z3
theorem FlIn.below {w w' : World} {a1 a2 a3 : Option Addr} {l1 l2 l3 : Nat} {z1 : List Ts} {z2 : List Cr} {z3 : List Df} (h : FlIn w a1 a2 a3 l1 l2 l3 z1 z2 z3) (k : Below w.heap.size w w') : FlIn w' a1 a2 a3 l1 l2 l3 z1 z2 z3 :=
  ⟨h.r1.below k, h.r2.below k, h.r3.below k⟩
/-- Its lists that a call has made, each in memory of its own. -/
structure FlOwn (w : World) (base : Nat) (a1 a2 a3 : Option Addr) (l1 c1 l2 c2 l3 c3 : Nat) (z1 : List Ts) (z2 : List Cr) (z3 : List Df) : Prop where
  o1 : OwnE 7 tsC w base 44 (.slice a1 l1 c1) z1
  o2 : OwnE 3 crC w base 54 (.slice a2 l2 c2) z2
  o3 : OwnE 3 dfC w base 56 (.slice a3 l3 c3) z3
  p12 : ∀ g, (Value.slice a1 l1 c1).ownBlock = some g → (Value.slice a2 l2 c2).ownBlock ≠ some g
  p13 : ∀ g, (Value.slice a1 l1 c1).ownBlock = some g → (Value.slice a3 l3 c3).ownBlock ≠ some g
  p23 : ∀ g, (Value.slice a2 l2 c2).ownBlock = some g → (Value.slice a3 l3 c3).ownBlock ≠ some g
theorem FlOwn.below {w w' : World} {base : Nat} {a1 a2 a3 : Option Addr} {l1 c1 l2 c2 l3 c3 : Nat} {z1 : List Ts} {z2 : List Cr} {z3 : List Df} (h : FlOwn w base a1 a2 a3 l1 c1 l2 c2 l3 c3 z1 z2 z3) (k : Below w.heap.size w w') : FlOwn w' base a1 a2 a3 l1 c1 l2 c2 l3 c3 z1 z2 z3 :=
  ⟨h.o1.below k, h.o2.below k, h.o3.below k, h.p12, h.p13, h.p23⟩
theorem FlOwn.mono {w : World} {base : Nat} {a1 a2 a3 : Option Addr} {l1 c1 l2 c2 l3 c3 : Nat} {z1 : List Ts} {z2 : List Cr} {z3 : List Df} (h : FlOwn w base a1 a2 a3 l1 c1 l2 c2 l3 c3 z1 z2 z3) {base' : Nat} (hb : base' ≤ base) : FlOwn w base' a1 a2 a3 l1 c1 l2 c2 l3 c3 z1 z2 z3 :=
  ⟨h.o1.mono hb, h.o2.mono hb, h.o3.mono hb, h.p12, h.p13, h.p23⟩
theorem FlOwn.read {w : World} {base : Nat} {a1 a2 a3 : Option Addr} {l1 c1 l2 c2 l3 c3 : Nat} {z1 : List Ts} {z2 : List Cr} {z3 : List Df} (h : FlOwn w base a1 a2 a3 l1 c1 l2 c2 l3 c3 z1 z2 z3) : FlIn w a1 a2 a3 l1 l2 l3 z1 z2 z3 :=
  ⟨h.o1.row, h.o2.row, h.o3.row⟩
/-- Blocks of its lists lie from base on, below a number. -/
def FlLies (base hi : Nat) (a1 a2 a3 : Option Addr) (l1 c1 l2 c2 l3 c3 : Nat) : Prop :=
  (∀ g, (Value.slice a1 l1 c1).ownBlock = some g → base ≤ g ∧ g < hi) ∧ (∀ g, (Value.slice a2 l2 c2).ownBlock = some g → base ≤ g ∧ g < hi) ∧ (∀ g, (Value.slice a3 l3 c3).ownBlock = some g → base ≤ g ∧ g < hi)
theorem FlOwn.lies {w : World} {base : Nat} {a1 a2 a3 : Option Addr} {l1 c1 l2 c2 l3 c3 : Nat} {z1 : List Ts} {z2 : List Cr} {z3 : List Df} (h : FlOwn w base a1 a2 a3 l1 c1 l2 c2 l3 c3 z1 z2 z3) : FlLies base w.heap.size a1 a2 a3 l1 c1 l2 c2 l3 c3 :=
  ⟨h.o1.lies, h.o2.lies, h.o3.lies⟩
theorem FlOwn.only {w w' : World} {base : Nat} {a1 a2 a3 : Option Addr} {l1 c1 l2 c2 l3 c3 : Nat} {z1 : List Ts} {z2 : List Cr} {z3 : List Df} {lo hi b u : Nat} (h : FlOwn w base a1 a2 a3 l1 c1 l2 c2 l3 c3 z1 z2 z3) (k : Only lo hi w w') (hl : FlLies b u a1 a2 a3 l1 c1 l2 c2 l3 c3) (hs : u ≤ lo ∨ hi ≤ b) : FlOwn w' base a1 a2 a3 l1 c1 l2 c2 l3 c3 z1 z2 z3 :=
  ⟨h.o1.only k (fun g hg => by have := hl.1 g hg; omega), h.o2.only k (fun g hg => by have := hl.2.1 g hg; omega), h.o3.only k (fun g hg => by have := hl.2.2 g hg; omega), h.p12, h.p13, h.p23⟩
theorem FlOwn.set_other {w : World} {base : Nat} {a1 a2 a3 : Option Addr} {l1 c1 l2 c2 l3 c3 : Nat} {z1 : List Ts} {z2 : List Cr} {z3 : List Df} (h : FlOwn w base a1 a2 a3 l1 c1 l2 c2 l3 c3 z1 z2 z3) {S o : Nat} (u : Value) (n1 : (Value.slice a1 l1 c1).ownBlock ≠ some S) (n2 : (Value.slice a2 l2 c2).ownBlock ≠ some S) (n3 : (Value.slice a3 l3 c3).ownBlock ≠ some S) : FlOwn (w.setCell ⟨S, o, none⟩ u) base a1 a2 a3 l1 c1 l2 c2 l3 c3 z1 z2 z3 :=
  ⟨h.o1.set_other u n1, h.o2.set_other u n2, h.o3.set_other u n3, h.p12, h.p13, h.p23⟩

end Go.Proofs.Ytfnnfldfnjnlfag

namespace Go.Proofs.Ytfnnfldfnjnlfag
open Go Go.RowKit

/-- A hangar at block G whose lock's word is m; what it holds lies from base on. -/
structure Hg (w : World) (base G : Nat) (m : Int) (a1 a2 a3 : Option Addr) (c1 c2 c3 : Nat) (ts : List Ts) (cs : List Cr) (ds : List Df) (nh nc nd : Int) : Prop where
  blk : Blk w G [.int .i32 m, .int .u32 0, .slice a1 ts.length c1, .slice a2 cs.length c2, .slice a3 ds.length c3, .int .i64 nh, .int .i64 nc, .int .i64 nd]
  own : FlOwn w base a1 a2 a3 ts.length c1 cs.length c2 ds.length c3 ts cs ds
  low : base ≤ G
  n1 : (Value.slice a1 ts.length c1).ownBlock ≠ some G
  n2 : (Value.slice a2 cs.length c2).ownBlock ≠ some G
  n3 : (Value.slice a3 ds.length c3).ownBlock ≠ some G
  s3 : a3 ≠ none
theorem Hg.below {w w' : World} {base G : Nat} {m : Int} {a1 a2 a3 : Option Addr} {c1 c2 c3 : Nat} {ts : List Ts} {cs : List Cr} {ds : List Df} {nh nc nd : Int} (h : Hg w base G m a1 a2 a3 c1 c2 c3 ts cs ds nh nc nd) (k : Below w.heap.size w w') : Hg w' base G m a1 a2 a3 c1 c2 c3 ts cs ds nh nc nd :=
  ⟨h.blk.below k, h.own.below k, h.low, h.n1, h.n2, h.n3, h.s3⟩
theorem Hg.size {w : World} {base G : Nat} {m : Int} {a1 a2 a3 : Option Addr} {c1 c2 c3 : Nat} {ts : List Ts} {cs : List Cr} {ds : List Df} {nh nc nd : Int} (h : Hg w base G m a1 a2 a3 c1 c2 c3 ts cs ds nh nc nd) : base ≤ w.heap.size := by
  have := h.blk.lt
  have := h.low
  omega
/-- The lock's word set. -/
theorem Hg.lock {w : World} {base G : Nat} {m : Int} {a1 a2 a3 : Option Addr} {c1 c2 c3 : Nat} {ts : List Ts} {cs : List Cr} {ds : List Df} {nh nc nd : Int} (h : Hg w base G m a1 a2 a3 c1 c2 c3 ts cs ds nh nc nd) (m' : Int) : Hg (w.setCell ⟨G, 0, none⟩ (.int .i32 m')) base G m' a1 a2 a3 c1 c2 c3 ts cs ds nh nc nd :=
  ⟨h.blk.set 0 (by simp) _, h.own.set_other _ h.n1 h.n2 h.n3, h.low, h.n1, h.n2, h.n3, h.s3⟩
/-- The clock set. -/
theorem Hg.now {w : World} {base G : Nat} {m : Int} {a1 a2 a3 : Option Addr} {c1 c2 c3 : Nat} {ts : List Ts} {cs : List Cr} {ds : List Df} {nh nc nd : Int} (h : Hg w base G m a1 a2 a3 c1 c2 c3 ts cs ds nh nc nd) (x y z : Int) : Hg (((w.setCell ⟨G, 5, none⟩ (.int .i64 x)).setCell ⟨G, 6, none⟩ (.int .i64 y)).setCell ⟨G, 7, none⟩ (.int .i64 z)) base G m a1 a2 a3 c1 c2 c3 ts cs ds x y z :=
  ⟨((h.blk.set 5 (by simp) _).set 6 (by simp) _).set 7 (by simp) _, ((h.own.set_other _ h.n1 h.n2 h.n3).set_other _ h.n1 h.n2 h.n3).set_other _ h.n1 h.n2 h.n3, h.low, h.n1, h.n2, h.n3, h.s3⟩
/-- Lists of unlike elements lie apart. -/
theorem own_ne {α β : Type} [Inhabited α] [Inhabited β] {K K' : Nat} {cells : α → Nat → Value} {cells' : β → Nat → Value} {w : World} {base base' : Nat} {T T' : TypeId} {v v' : Value} {ps : List α} {qs : List β} (h : OwnE K cells w base T v ps) (h' : OwnE K' cells' w base' T' v' qs) (hT : T ≠ T') : ∀ g, v.ownBlock = some g → v'.ownBlock ≠ some g := by
  intro g hg hg'
  obtain ⟨xs, ho, _⟩ := h.own
  obtain ⟨ys, ho', _⟩ := h'.own
  rcases ho.2 with ⟨e, _⟩ | ⟨g1, c1, cur1, rfl, _, hb1, _⟩
  · rw [e] at hg; simp [Value.ownBlock] at hg
  rcases ho'.2 with ⟨e, _⟩ | ⟨g2, c2, cur2, rfl, _, hb2, _⟩
  · rw [e] at hg'; simp [Value.ownBlock] at hg'
  have e1 : g1 = g := Option.some.inj hg
  have e2 : g2 = g := Option.some.inj hg'
  rw [e1] at hb1
  rw [e2, hb1] at hb2
  simp only [Option.some.injEq, Obj.cells.injEq] at hb2
  exact hT hb2.2.1
/-- Another list of defects put in its place. -/
theorem Hg.defects {w w' : World} {base G : Nat} {m : Int} {a1 a2 a3 a4 : Option Addr} {c1 c2 c3 c4 : Nat} {ts : List Ts} {cs : List Cr} {ds es : List Df} {nh nc nd : Int} (h : Hg w base G m a1 a2 a3 c1 c2 c3 ts cs ds nh nc nd) (gr : w.grownBy w' (Value.slice a3 ds.length c3).ownBlock)
    (o : OwnE 3 dfC w' base 56 (.slice a4 es.length c4) es) (ng : (Value.slice a4 es.length c4).ownBlock ≠ some G) (s4 : a4 ≠ none) :
    Hg (w'.setCell ⟨G, 4, none⟩ (.slice a4 es.length c4)) base G m a1 a2 a4 c1 c2 c4 ts cs es nh nc nd := by
  have b' := h.blk.apart gr (fun e => h.n3 e.symm)
  have p1 := h.own.o1.far gr (fun g hg e => h.own.p13 g hg e.symm)
  have p2 := h.own.o2.far gr (fun g hg e => h.own.p23 g hg e.symm)
  exact ⟨b'.set 4 (by simp) _, ⟨p1.set_other _ h.n1, p2.set_other _ h.n2, o.set_other _ ng, h.own.p12, own_ne p1 o (by decide), own_ne p2 o (by decide)⟩, h.low, h.n1, h.n2, ng, s4⟩
/-- A list of defects that is not empty lies apart from a hangar. -/
theorem Hg.apart {w w' : World} {base G : Nat} {m : Int} {a1 a2 a3 : Option Addr} {c1 c2 c3 : Nat} {ts : List Ts} {cs : List Cr} {ds es : List Df} {nh nc nd : Int} (h : Hg w base G m a1 a2 a3 c1 c2 c3 ts cs ds nh nc nd) (gr : w.grownBy w' (Value.slice a3 ds.length c3).ownBlock) {g n c : Nat}
    (o : OwnE 3 dfC w' base 56 (.slice (some ⟨g, 0, none⟩) n c) es) (hn : es.length = n) (h0 : 0 < n) : g ≠ G := by
  intro e
  subst e
  have b' := h.blk.apart gr (fun e => h.n3 e.symm)
  have c0 := b'.c 0 (by simp)
  have c1 := (o.here hn 0 h0 0 (by omega)).1
  rw [Nat.zero_mul, Nat.zero_add, c0] at c1
  simp [dfC] at c1
/-- A hangar, wherever its lists lie. -/
def HgE (w : World) (base G : Nat) (m : Int) (f : Fl) : Prop := ∃ a1 a2 a3 c1 c2 c3, Hg w base G m a1 a2 a3 c1 c2 c3 f.ts f.cs f.ds f.nh f.nc f.nd
/-- A hangar's own blocks. -/
def hz (G : Nat) (a1 a2 a3 : Option Addr) (b : Nat) : Prop := b = G ∨ (Value.slice a1 0 0).ownBlock = some b ∨ (Value.slice a2 0 0).ownBlock = some b ∨ (Value.slice a3 0 0).ownBlock = some b
theorem apz {w w' : World} (G : Nat) (a1 a2 a3 : Option Addr) (h : Below w.heap.size w w') : Aps (hz G a1 a2 a3) w w' := Aps.of_below h
theorem hz_G {G : Nat} {a1 a2 a3 : Option Addr} : hz G a1 a2 a3 G := .inl rfl
theorem hz_1 {G g : Nat} {a2 a3 : Option Addr} : hz G (some ⟨g, 0, none⟩) a2 a3 g := .inr (.inl rfl)
theorem hz_3 {G g : Nat} {a1 a2 : Option Addr} : hz G a1 a2 (some ⟨g, 0, none⟩) g := .inr (.inr (.inr rfl))
theorem own_len (a : Option Addr) (l c l' c' : Nat) : (Value.slice a l c).ownBlock = (Value.slice a l' c').ownBlock := by rcases a with _ | ⟨b, _ | o, _ | r⟩ <;> rfl
theorem Hg.hz_low {w : World} {base G : Nat} {m : Int} {a1 a2 a3 : Option Addr} {c1 c2 c3 : Nat} {ts : List Ts} {cs : List Cr} {ds : List Df} {nh nc nd : Int} (h : Hg w base G m a1 a2 a3 c1 c2 c3 ts cs ds nh nc nd) : ∀ k, hz G a1 a2 a3 k → base ≤ k := by
  rintro k (rfl | e | e | e)
  · exact h.low
  · exact (h.own.o1.lies k ((own_len _ _ _ _ _).trans e)).1
  · exact (h.own.o2.lies k ((own_len _ _ _ _ _).trans e)).1
  · exact (h.own.o3.lies k ((own_len _ _ _ _ _).trans e)).1
/-- Texts that can be there. -/
structure FitF (f : Fl) : Prop where
  t : ∀ i, fitT (elAt f.ts i).nm
  c : ∀ i, fitT (elAt f.cs i).n
  d : ∀ i, fitT (elAt f.ds i).n

end Go.Proofs.Ytfnnfldfnjnlfag

namespace Go.Proofs.Ytfnnfldfnjnlfag
open Go Go.RowKit

def kpS (s x : Int) : Int := wrap64 (wrap64 (s * 31) + x)
def kpJ (r : List Int) (s : Int) : Nat → Int
  | 0 => s
  | k + 1 => kpS (kpJ r s k) (nth r k)
def kpI (z : List (List Int)) : Nat → Int
  | 0 => 0
  | i + 1 => kpJ (nthS z i) (kpI z i) (nthS z i).length
def itI (ds : List Df) : Nat → Int
  | 0 => 0
  | k + 1 => kpS (itI ds k) (elAt ds k).i
theorem nameB_fit {x : ByteArray} (h : nameB x = true) : fitT x := by
  simp only [nameB, inB, Bool.and_eq_true, decide_eq_true_eq] at h
  unfold fitT
  omega
theorem fit_at {α : Type} [Inhabited α] {xs : List α} {key : α → ByteArray} (hd : fitT (key default)) (h : ∀ i, i < xs.length → fitT (key (elAt xs i))) (i : Nat) : fitT (key (elAt xs i)) := by
  rcases Nat.lt_or_ge i xs.length with hi | hi
  · exact h i hi
  · have : elAt xs i = default := by unfold elAt; rw [List.getElem?_eq_none hi]; rfl
    rw [this]; exact hd
/-- A fleet that is so has texts that can be there. -/
theorem flB_fit {f : Fl} (h : flB f = true) : FitF f := by
  obtain ⟨_, h2, h3, h4⟩ := flB_facts h
  have e0 : fitT (⟨#[]⟩ : ByteArray) := by unfold fitT; decide
  have q3 := (listS_facts h3).2.1
  have q2 := (listS_facts h2).2.1
  have q4 := (listI_facts h4).2.1
  refine ⟨fit_at (key := fun x : Ts => x.nm) e0 (fun i hi => ?_), fit_at (key := fun x : Cr => x.n) e0 (fun i hi => ?_), fit_at (key := fun x : Df => x.n) e0 (fun i hi => ?_)⟩
  · have k := q3 i hi
    simp only [tkB, tsB, Bool.and_eq_true] at k
    exact nameB_fit k.1.1.1.1.1.1
  · have k := q2 i hi
    simp only [crB, Bool.and_eq_true] at k
    exact nameB_fit k.1.1
  · have k := q4 i hi
    simp only [dkB, Bool.and_eq_true] at k
    exact nameB_fit k.1.1
theorem flB_len {f : Fl} (h : flB f = true) : f.ts.length ≤ 40 ∧ f.cs.length ≤ 20 ∧ f.ds.length ≤ 20 := by
  obtain ⟨_, h2, h3, h4⟩ := flB_facts h
  exact ⟨(listS_facts h3).1, (listS_facts h2).1, (listI_facts h4).1⟩

end Go.Proofs.Ytfnnfldfnjnlfag

namespace Go.Proofs.Ytfnnfldfnjnlfag
open Go Go.RowKit

theorem nx_no {f : Fl} (h : flB f = false) : nxR f = (⟨#[]⟩, 0, false) := by simp [nxR, h]
theorem nx_yes {f : Fl} (h : flB f = true) : nxR f = nxK f f.ts.length := by simp [nxR, h]
theorem nx_take {f : Fl} {k : Nat} (h : d9D (elAt f.ts k) f.nh f.nc f.nd = false) (h2 : 0 < (elAt f.ts k).c) (h3 : (nxK f k).2.2 = false ∨ d9C (elAt f.ts k) f.nh f.nc f.nd < (nxK f k).2.1) : nxK f (k + 1) = ((elAt f.ts k).nm, d9C (elAt f.ts k) f.nh f.nc f.nd, true) := by rw [nxK, if_pos ⟨h, h2, h3⟩]
theorem nx_keep {f : Fl} {k : Nat} (h : d9D (elAt f.ts k) f.nh f.nc f.nd = true ∨ ¬ 0 < (elAt f.ts k).c ∨ ((nxK f k).2.2 = true ∧ ¬ d9C (elAt f.ts k) f.nh f.nc f.nd < (nxK f k).2.1)) : nxK f (k + 1) = nxK f k := by
  rw [nxK, if_neg]
  rintro ⟨a, b, c⟩
  rcases h with h | h | ⟨h1, h2⟩
  · rw [h] at a; cases a
  · exact h b
  · rcases c with c | c
    · rw [h1] at c; cases c
    · exact h2 c
theorem ret_nx {x : ByteArray × Int × Bool} {a : ByteArray} {b : Int} {c : Bool} (h : x = (a, b, c)) : Ending.returned (.tuple #[.string a, .int .i64 b, .bool c]) = .returned (.tuple #[.string x.1, .int .i64 x.2.1, .bool x.2.2]) := by rw [h]

end Go.Proofs.Ytfnnfldfnjnlfag

namespace Go.Proofs.Ytfnnfldfnjnlfag
open Go Go.RowKit

theorem ixE_neg {α : Type} [Inhabited α] {P : α → Bool} {xs : List α} (h : ¬ 0 ≤ ixE P xs) {j : Nat} (hj : j < xs.length) : P (elAt xs j) = false := by
  rcases ixE_cases P xs with ⟨_, a⟩ | ⟨k, _, a, _⟩
  · exact a j hj
  · rw [a] at h; omega
theorem ixE_pos {α : Type} [Inhabited α] {P : α → Bool} {xs : List α} (h : 0 ≤ ixE P xs) : ∃ k, k < xs.length ∧ ixE P xs = (k : Int) ∧ P (elAt xs k) = true := by
  rcases ixE_cases P xs with ⟨a, _⟩ | ⟨k, a, b, c, _⟩
  · rw [a] at h; omega
  · exact ⟨k, a, b, c⟩
theorem fl_task {f : Fl} (hf : flB f = true) {i : Nat} (hi : i < f.ts.length) : d9B (elAt f.ts i) f.nh f.nc f.nd = true ∧ nameB (elAt f.ts i).nm = true := by
  obtain ⟨h1, _, h3, _⟩ := flB_facts hf
  have k := (listS_facts h3).2.1 i hi
  simp only [tkB, Bool.and_eq_true] at k
  refine ⟨?_, (tsB_facts k.1).1⟩
  rw [d9B, k.1, h1, k.2]; rfl
theorem fl_once {f : Fl} (hf : flB f = true) {i j : Nat} (hi : i < f.ts.length) (hj : j < f.ts.length) (e : (elAt f.ts i).nm = (elAt f.ts j).nm) : i = j := by
  obtain ⟨_, _, h3, _⟩ := flB_facts hf
  refine riseS_ne (listS_facts h3).2.2 (by simpa using hi) (by simpa using hj) ?_
  rw [map_at hi, map_at hj]; exact e
theorem name_ne {x : ByteArray} (h : nameB x = true) : x ≠ ⟨#[]⟩ := by
  intro e
  rw [e] at h
  simp only [nameB, inB, Bool.and_eq_true, decide_eq_true_eq] at h
  exact absurd h.1.1 (by decide)
theorem rl_free {f : Fl} (h : (rlR f).1 = 0) : flB f = true ∧ (∀ i, i < f.ts.length → duT f (elAt f.ts i) = false) ∧ ∀ i, i < f.ds.length → unB f (elAt f.ds i) = false ∧ olB f (elAt f.ds i) = false := by
  rw [rlR] at h
  split at h
  · simp at h
  split at h
  · simp at h
  split at h
  · simp at h
  split at h
  · simp at h
  split at h
  · simp at h
  · rename_i q1 q2 q3 _ q5
    exact ⟨by simpa using q1, fun i hi => ixE_neg q2 hi, fun i hi => ⟨ixE_neg q3 hi, ixE_neg q5 hi⟩⟩
/-- Whether a defect is found on the list, of its first k. -/
def onK (f : Fl) (d : Df) : Nat → Bool
  | 0 => false
  | k + 1 => onK f d k || (decide ((elAt f.cs k).n = d.n) && decide (f.nd - d.s ≤ (elAt f.cs k).d))
theorem onK_at {f : Fl} {d : Df} {k : Nat} (h1 : (elAt f.cs k).n = d.n) (h2 : f.nd - d.s ≤ (elAt f.cs k).d) : ∀ n, k < n → onK f d n = true
  | 0, hn => by omega
  | n + 1, hn => by
    rw [onK]
    by_cases e : k = n
    · subst e; simp [h1, h2]
    · rw [onK_at h1 h2 n (by omega)]; rfl
theorem on_yes {f : Fl} (h : (rlR f).1 = 0) {i : Nat} (hi : i < f.ds.length) : onK f (elAt f.ds i) f.cs.length = true := by
  obtain ⟨_, _, h3⟩ := rl_free h
  obtain ⟨a, b⟩ := h3 i hi
  have a : ¬ caF f (elAt f.ds i).n < 0 := of_decide_eq_false a
  obtain ⟨k, hk, e, hq⟩ := ixE_pos (P := qCr (elAt f.ds i).n) (xs := f.cs) (by show 0 ≤ caF f (elAt f.ds i).n; omega)
  have ec : caF f (elAt f.ds i).n = (k : Int) := e
  have hq : (elAt f.cs k).n = (elAt f.ds i).n := of_decide_eq_true hq
  refine onK_at hq ?_ _ hk
  have c : ¬ (elAt f.cs k).d < f.nd - (elAt f.ds i).s := by
    simp only [olB, ec, Bool.and_eq_false_iff, Bool.not_eq_eq_eq_not, Bool.not_false, decide_eq_true_eq, decide_eq_false_iff_not] at b
    rcases b with b | b
    · omega
    · simpa using b
  omega
/-- What NextDue has found of the first k. -/
theorem nxK_is (f : Fl) : ∀ k, k ≤ f.ts.length →
    ((nxK f k = (⟨#[]⟩, 0, false) ∧ ∀ j, j < k → d9D (elAt f.ts j) f.nh f.nc f.nd = false → ¬ 0 < (elAt f.ts j).c) ∨
     ∃ i, i < k ∧ nxK f k = ((elAt f.ts i).nm, d9C (elAt f.ts i) f.nh f.nc f.nd, true) ∧ d9D (elAt f.ts i) f.nh f.nc f.nd = false ∧ ∀ j, j < k → d9D (elAt f.ts j) f.nh f.nc f.nd = false → 0 < (elAt f.ts j).c → d9C (elAt f.ts i) f.nh f.nc f.nd ≤ d9C (elAt f.ts j) f.nh f.nc f.nd)
  | 0, _ => .inl ⟨rfl, fun j hj => by omega⟩
  | k + 1, hk => by
    have ih := nxK_is f k (by omega)
    by_cases c : d9D (elAt f.ts k) f.nh f.nc f.nd = false ∧ 0 < (elAt f.ts k).c ∧ ((nxK f k).2.2 = false ∨ d9C (elAt f.ts k) f.nh f.nc f.nd < (nxK f k).2.1)
    · right
      refine ⟨k, by omega, by rw [nxK, if_pos c], c.1, fun j hj q1 q2 => ?_⟩
      rcases Nat.lt_or_ge j k with l | l
      · rcases ih with ⟨e, a⟩ | ⟨i, hi, e, q, a⟩
        · exact absurd q2 (a j l q1)
        · have := a j l q1 q2
          rcases c.2.2 with z | z
          · rw [e] at z; cases z
          · rw [e] at z; simp only at z; omega
      · rw [show j = k by omega]; exact Int.le_refl _
    · rw [nxK, if_neg c]
      rcases ih with ⟨e, a⟩ | ⟨i, hi, e, q, a⟩
      · refine .inl ⟨e, fun j hj q1 q2 => ?_⟩
        rcases Nat.lt_or_ge j k with l | l
        · exact a j l q1 q2
        · rw [show j = k by omega] at q1 q2
          exact c ⟨q1, q2, .inl (by rw [e])⟩
      · refine .inr ⟨i, by omega, e, q, fun j hj q1 q2 => ?_⟩
        rcases Nat.lt_or_ge j k with l | l
        · exact a j l q1 q2
        · rw [show j = k by omega] at q1 q2 ⊢
          rcases Int.lt_or_le (d9C (elAt f.ts k) f.nh f.nc f.nd) (d9C (elAt f.ts i) f.nh f.nc f.nd) with z | z
          · exact absurd ⟨q1, q2, .inr (by rw [e]; exact z)⟩ c
          · exact z
/-- What the law FnCarried asks of the next one due. -/
theorem nx_law {f : Fl} (hf : flB f = true) : ((nxR f).2.2 = true ↔ (nxR f).1 ≠ ⟨#[]⟩) ∧
    (∀ i, i < f.ts.length → (elAt f.ts i).nm = (nxR f).1 → (nxR f).2.2 = true ∧ d9D (elAt f.ts i) f.nh f.nc f.nd = false ∧ d9C (elAt f.ts i) f.nh f.nc f.nd = (nxR f).2.1) ∧
    (∀ i, i < f.ts.length → (nxR f).2.2 = true → d9D (elAt f.ts i) f.nh f.nc f.nd = false → 0 < (elAt f.ts i).c → (nxR f).2.1 ≤ d9C (elAt f.ts i) f.nh f.nc f.nd) := by
  rw [nx_yes hf]
  rcases nxK_is f f.ts.length (Nat.le_refl _) with ⟨e, _⟩ | ⟨k, hk, e, q, a⟩
  · rw [e]
    refine ⟨by simp, fun i hi h => ?_, fun i hi h => by cases h⟩
    exact absurd h (name_ne (fl_task hf hi).2)
  · rw [e]
    refine ⟨by simp only [ne_eq, true_iff]; exact name_ne (fl_task hf hk).2, fun i hi h => ?_, fun i hi _ q1 q2 => a i hi q1 q2⟩
    have := fl_once hf hi hk h
    subst this
    exact ⟨rfl, q, rfl⟩

end Go.Proofs.Ytfnnfldfnjnlfag
