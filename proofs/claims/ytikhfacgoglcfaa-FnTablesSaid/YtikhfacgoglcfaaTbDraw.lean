/-
  A drawn curve told exactly: what the plain drawing tells from the cursor's state. At every state; only the cursor's block and new ones are written.
-/
import Derived.Test.YtikhfacgoglcfaaTbRise
import Derived.Test.YtikhfacgoglcfaaAirIn
import Derived.Test.YtikhfacgoglcfaaMadeI
import Derived.Deep.Cut
import Derived.Deep.CutRange
import Derived.Deep.RegionLaw
namespace Go.Proofs.Ytikhfacgoglcfaa
open Go.RowKit
attribute [local irreducible] byS

theorem ownI_nilT (w : World) (base : Nat) : OwnI w base (.slice none 0 0) [] := ⟨⟨[], by simpa using World.ownsRow_nil w base 3 1, fun j hj => by simp at hj⟩, fun i => by simp [nth]⟩
theorem Kp.grown {C : Nat} {w w' : World} (h : Kp C w.heap.size w w') : w.grownBy w' (some C) := ⟨h.os, h.tape, h.output, h.size, fun k hk hne => h.block k hk (fun e => hne (by rw [e]))⟩
theorem l1DrawRise_x1 {w : World} {C : Nat} {a : Option Addr} {len cap : Nat} {bs : Nat → Nat} {S : Nat × Nat} {N T : Int} (n st : Nat) (low : Int) (W : World) (h : DrX w C a len cap bs S W) (hin : ∀ b off, a = some ⟨b, off, none⟩ → b < w.heap.size) (hN : N = (n : Int)) (hT : T = (st : Int)) (hn : n ≤ 100) (hst : 0 < st ∧ st ≤ 256) (hlow : -10000 ≤ low ∧ low ≤ 10000) :
    Calls Try.prog 22 #[.pointer (some ⟨C, 0, none⟩), .int .i64 N, .int .i64 low, .int .i64 T] W fun e w' => RiseX w C a len cap bs W n st low S e w' := by
  subst hN; subst hT
  exact l1DrawRise_x n st low W h hin hn hst hlow
/-- The same, what is told named ahead. -/
theorem l1Below_e {w : World} {C : Nat} {a : Option Addr} {len cap : Nat} {bs : Nat → Nat} {S T : Nat × Nat} {N : Int} {y : Nat} (n : Nat) (W : World) (D : DrX w C a len cap bs S W) (hN : N = (n : Int)) (hn : 1 ≤ n ∧ n ≤ 256) (hy : blG (byS bs len) n S = (y, T)) :
    Calls Try.prog 13 #[.pointer (some ⟨C, 0, none⟩), .int .i64 N] W fun e w' => e = .returned (.int .i64 (y : Int)) ∧ DrX w C a len cap bs T w' ∧ W.grownBy w' (some C) := by
  have h := l1Below_x1 n W D hN hn
  rw [hy] at h
  exact h
theorem l1PickInt_e {w : World} {C : Nat} {a : Option Addr} {len cap : Nat} {bs : Nat → Nat} {S T : Nat × Nat} {q : Nat} {x : Int} (g n c : Nat) (zs : List Int) (W : World) (D : DrX w C a len cap bs S W) (hr : Row W (some ⟨g, 0, none⟩) n zs) (hg : g ≠ C) (hn : 1 ≤ n ∧ n ≤ 100) (hy : blG (byS bs len) n S = (q, T)) (hx : nth zs q = x) :
    Calls Try.prog 23 #[.pointer (some ⟨C, 0, none⟩), .slice (some ⟨g, 0, none⟩) n c] W fun e w' => e = .returned (.int .i64 x) ∧ DrX w C a len cap bs T w' ∧ W.grownBy w' (some C) := by
  have h := l1PickInt_x g n c zs W D hr hg hn
  rw [hy] at h
  rw [← hx]
  exact h
/-- The end of drawing a curve: two lists and the result's block. -/
structure Ce (w : World) (C R : Nat) (a : Option Addr) (len cap : Nat) (bs : Nat → Nat) (W0 : World) (S : Nat × Nat) (W : World) (vX vY : Value) (xs ys : List Int) : Prop where
  d : DrX w C a len cap bs S W
  inn : ∀ b off, a = some ⟨b, off, none⟩ → b < w.heap.size
  cr : C < R
  r : Blk W R [.slice none 0 0, .slice none 0 0]
  oX : OwnI W (R + 1) vX xs
  oY : OwnI W (R + 1) vY ys
  kp : Kp C R W0 W
  hr : R = W0.heap.size
/-- While a curve is drawn: its block and its two lists, apart. -/
structure Cd (w : World) (C R G : Nat) (a : Option Addr) (len cap : Nat) (bs : Nat → Nat) (W0 : World) (S : Nat × Nat) (W : World) (vX vY : Value) (xs ys : List Int) : Prop extends Ce w C R a len cap bs W0 S W vX vY xs ys where
  rg : R < G
  p : Blk W G [vX, vY]
  nX : vX.ownBlock ≠ some G
  nY : vY.ownBlock ≠ some G
  ap : ∀ g, vY.ownBlock = some g → vX.ownBlock ≠ some g
section
variable {w : World} {C R G : Nat} {a : Option Addr} {len cap : Nat} {bs : Nat → Nat} {W0 : World} {S S' : Nat × Nat} {W W' : World} {vX vY : Value} {xs ys : List Int}
theorem Ce.below (h : Ce w C R a len cap bs W0 S W vX vY xs ys) (k : Below W.heap.size W W') : Ce w C R a len cap bs W0 S W' vX vY xs ys :=
  ⟨h.d.below k, h.inn, h.cr, h.r.below k, h.oX.below k, h.oY.below k, h.kp.trans (Kp.of_below k (Nat.le_of_lt h.r.lt)), h.hr⟩
theorem Cd.below (h : Cd w C R G a len cap bs W0 S W vX vY xs ys) (k : Below W.heap.size W W') : Cd w C R G a len cap bs W0 S W' vX vY xs ys :=
  ⟨h.toCe.below k, h.rg, h.p.below k, h.nX, h.nY, h.ap⟩
theorem Ce.call (h : Ce w C R a len cap bs W0 S W vX vY xs ys) (k : W.grownBy W' (some C)) (d : DrX w C a len cap bs S' W') : Ce w C R a len cap bs W0 S' W' vX vY xs ys := by
  have c1 := h.cr
  have lt := h.r.lt
  exact ⟨d, h.inn, c1, h.r.apart k (fun e => by have := Option.some.inj e; omega), h.oX.far k (fun g hg e => by have := Option.some.inj e; have := (h.oX.lies g hg).1; omega), h.oY.far k (fun g hg e => by have := Option.some.inj e; have := (h.oY.lies g hg).1; omega), h.kp.trans (Kp.of_row k (by omega)), h.hr⟩
theorem Cd.call (h : Cd w C R G a len cap bs W0 S W vX vY xs ys) (k : W.grownBy W' (some C)) (d : DrX w C a len cap bs S' W') : Cd w C R G a len cap bs W0 S' W' vX vY xs ys := by
  have c1 := h.cr
  have c2 := h.rg
  exact ⟨h.toCe.call k d, c2, h.p.apart k (fun e => by have := Option.some.inj e; omega), h.nX, h.nY, h.ap⟩
/-- The curve's block takes another value. -/
theorem Ce.put (h : Ce w C R a len cap bs W0 S W vX vY xs ys) {G o : Nat} (hG : R < G) (v : Value) (nX : vX.ownBlock ≠ some G) (nY : vY.ownBlock ≠ some G) : Ce w C R a len cap bs W0 S (W.setCell ⟨G, o, none⟩ v) vX vY xs ys := by
  have c1 := h.cr
  have lt := h.r.lt
  have gs : W.grownBy (W.setCell ⟨G, o, none⟩ v) (some G) := grown_set (grown_refl W (some G)) o _
  exact ⟨h.d.own gs (fun q hq => by have := Option.some.inj hq; omega) h.inn, h.inn, c1, h.r.other (by simp; omega) _, h.oX.set_other _ nX, h.oY.set_other _ nY, h.kp.trans (Kp.of_own gs (by omega) (fun i hi => by have := Option.some.inj hi; omega)), h.hr⟩
theorem Cd.pushY {zs : List Int} {g9 n c9 : Nat} (h : Cd w C R G a len cap bs W0 S W vX vY xs ys) (o : OwnI W' (R + 1) (.slice (some ⟨g9, 0, none⟩) n c9) zs) (k : W.grownBy W' vY.ownBlock) (ha : vY.ownBlock = some g9 ∨ W.heap.size < g9) :
    Cd w C R G a len cap bs W0 S (W'.setCell ⟨G, 1, none⟩ (.slice (some ⟨g9, 0, none⟩) n c9)) vX (.slice (some ⟨g9, 0, none⟩) n c9) xs zs := by
  have c1 := h.cr
  have c2 := h.rg
  have lm := h.oY.lies
  have lo := h.oX.lies
  have hG : G < W.heap.size := h.p.lt
  have gne : g9 ≠ G := fun e => by
    rcases ha with e2 | e2
    · rw [e] at e2; exact h.nY e2
    · omega
  have d1 := h.d.own k (fun q hq => by have := lm q hq; omega) h.inn
  have p1 := h.p.apart k (fun e => h.nY e.symm)
  have r1 := h.r.apart k (fun e => by have := lm _ e.symm; omega)
  have o1 : OwnI W' (R + 1) vX xs := h.oX.far k (fun g hg e => h.ap g e.symm hg)
  have kp1 : Kp C R W0 W' := h.kp.trans (Kp.of_own k (by omega) (fun i hi => by have := (lm i hi).1; omega))
  have e1 : Ce w C R a len cap bs W0 S W' vX (.slice (some ⟨g9, 0, none⟩) n c9) xs zs := ⟨d1, h.inn, c1, r1, o1, o, kp1, h.hr⟩
  have ng : (Value.slice (some ⟨g9, 0, none⟩) n c9).ownBlock ≠ some G := by simp [Value.ownBlock]; exact gne
  refine ⟨e1.put c2 _ h.nX ng, c2, by simpa using p1.set 1 (by simp) (.slice (some ⟨g9, 0, none⟩) n c9), h.nX, ng, fun g hg e => ?_⟩
  have e2 : g9 = g := by simpa [Value.ownBlock] using hg
  subst e2
  rcases ha with e3 | e3
  · exact h.ap g9 e3 e
  · have := lo g9 e; omega
theorem Cd.setX {g n c : Nat} (h : Cd w C R G a len cap bs W0 S W (.slice (some ⟨g, 0, none⟩) n c) vY xs ys) (hn : xs.length = n) (i : Nat) (h0 : i < n) (x : Int) (hx : -200000 ≤ x ∧ x ≤ 200000) :
    Ce w C R a len cap bs W0 S (W.setCell ⟨g, i, none⟩ (.int .i64 x)) (.slice (some ⟨g, 0, none⟩) n c) vY (xs.set i x) ys := by
  subst hn
  have c1 := h.cr
  have lt := h.r.lt
  have lg := (h.oX.lies g rfl).1
  have gs : W.grownBy (W.setCell ⟨g, i, none⟩ (.int .i64 x)) (some g) := grown_set (grown_refl W (some g)) i _
  exact ⟨h.d.own gs (fun q hq => by have := Option.some.inj hq; omega) h.inn, h.inn, c1, h.r.other (by simp; omega) _, h.oX.set i h0 x (by omega), h.oY.set_other _ (fun e => h.ap g e rfl), h.kp.trans (Kp.of_own gs (by omega) (fun i hi => by have := Option.some.inj hi; omega)), h.hr⟩
theorem Cd.setY {g n c : Nat} (h : Cd w C R G a len cap bs W0 S W vX (.slice (some ⟨g, 0, none⟩) n c) xs ys) (hn : ys.length = n) (i : Nat) (h0 : i < n) (x : Int) (hx : -200000 ≤ x ∧ x ≤ 200000) :
    Ce w C R a len cap bs W0 S (W.setCell ⟨g, i, none⟩ (.int .i64 x)) vX (.slice (some ⟨g, 0, none⟩) n c) xs (ys.set i x) := by
  subst hn
  have c1 := h.cr
  have lt := h.r.lt
  have lg := (h.oY.lies g rfl).1
  have gs : W.grownBy (W.setCell ⟨g, i, none⟩ (.int .i64 x)) (some g) := grown_set (grown_refl W (some g)) i _
  exact ⟨h.d.own gs (fun q hq => by have := Option.some.inj hq; omega) h.inn, h.inn, c1, h.r.other (by simp; omega) _, h.oX.set_other _ (fun e => h.ap g rfl e), h.oY.set i h0 x (by omega), h.kp.trans (Kp.of_own gs (by omega) (fun i hi => by have := Option.some.inj hi; omega)), h.hr⟩
/-- What is told. -/
def CuX (w : World) (C : Nat) (a : Option Addr) (len cap : Nat) (bs : Nat → Nat) (W : World) (S : Nat × Nat) (e : Ending) (w' : World) : Prop :=
  ∃ vX vY : Value, e = .returned (.agg #[vX, vY]) ∧ OwnI w' W.heap.size vX (cuG (byS bs len) S).1.1 ∧ OwnI w' W.heap.size vY (cuG (byS bs len) S).1.2 ∧ DrX w C a len cap bs (cuG (byS bs len) S).2 w' ∧ Kp C W.heap.size W w'
theorem Ce.told {S0 : Nat × Nat} (h : Ce w C R a len cap bs W0 S W vX vY xs ys) (hE : cuG (byS bs len) S0 = ((xs, ys), S)) :
    Blk ((W.setCell ⟨R, 0, none⟩ vX).setCell ⟨R, 1, none⟩ vY) R [vX, vY] ∧ CuX w C a len cap bs W0 S0 (.returned (.agg #[vX, vY])) ((W.setCell ⟨R, 0, none⟩ vX).setCell ⟨R, 1, none⟩ vY) := by
  have c1 := h.cr
  have hr := h.hr
  have lt := h.r.lt
  have nX : vX.ownBlock ≠ some R := fun e => by have := (h.oX.lies R e).1; omega
  have nY : vY.ownBlock ≠ some R := fun e => by have := (h.oY.lies R e).1; omega
  have gs : W.grownBy ((W.setCell ⟨R, 0, none⟩ vX).setCell ⟨R, 1, none⟩ vY) (some R) := grown_set (grown_set (grown_refl W (some R)) 0 _) 1 _
  refine ⟨by simpa using (h.r.set 0 (by simp) vX).set 1 (by simp) vY, vX, vY, rfl, ?_, ?_, ?_, ?_⟩
  · rw [hE]; exact ((h.oX.set_other _ nX).set_other _ nX).mono (by omega)
  · rw [hE]; exact ((h.oY.set_other _ nY).set_other _ nY).mono (by omega)
  · rw [hE]; exact h.d.own gs (fun q hq => by have := Option.some.inj hq; omega) h.inn
  · rw [← hr]; exact h.kp.trans (Kp.of_own gs (by omega) (fun i hi => by have := Option.some.inj hi; omega))
end
theorem own_at {w : World} {base g n c : Nat} {zs : List Int} (h : OwnI w base (.slice (some ⟨g, 0, none⟩) n c) zs) (hn : zs.length = n) (i : Nat) (h0 : i < n) : w.cell? ⟨g, i, none⟩ = some (.int .i64 (nth zs i)) ∧ w.frozen? ⟨g, i, none⟩ = false := by
  subst hn; exact h.here i h0
theorem ownI_madeT (W : World) (base m : Nat) (hb : base ≤ W.heap.size) (hm : m ≤ 1000) : OwnI (W.alloc (.cells (madeCells #[.int .i64 0] m) 3)) base (.slice (some ⟨W.heap.size, 0, none⟩) m m) (List.replicate m 0) := by
  have e : madeCells #[.int .i64 0] m = (List.replicate m (Value.int .i64 0)).toArray := by
    apply Array.ext'
    rw [toList_madeCells_one]
  rw [e]
  refine ⟨⟨List.replicate m (Value.int .i64 0), ⟨by simp, .inr ⟨W.heap.size, m, _, by simp, hb, heap_alloc_new W _, by simp, by unfold maxLen; omega, by simp, by simp⟩⟩, fun j hj => ?_⟩, fun i => by rw [nthZ]; omega⟩
  rw [nthZ]
  have hj2 : j < m := by simpa using hj
  simp [hj2]
theorem ownI_oneT {w : World} {base : Nat} (x : Int) (h : base ≤ w.heap.size) (hf : -9223372036854775808 ≤ x ∧ x ≤ 9223372036854775807) : OwnI (w.alloc (Obj.cells #[.int .i64 x] 3)) base (.slice (some ⟨w.heap.size, 0, none⟩) 1 1) [x] := by
  refine ⟨⟨[.int .i64 x], ⟨by simp, .inr ⟨w.heap.size, 1, _, by simp, h, heap_alloc_new w _, by simp, by unfold maxLen; omega, by simp, by simp⟩⟩, fun j hj => ?_⟩, fun i => ?_⟩
  · have : j = 0 := by simpa using hj
    subst this
    simp [nth]
  · rcases i with _ | i <;> simp [nth]
    omega
theorem pk0_bd (q : Nat) : -200000 ≤ pk0 q ∧ pk0 q ≤ 200000 := by
  rcases (by omega : q = 0 ∨ q = 1 ∨ q = 2 ∨ 3 ≤ q) with rfl | rfl | rfl | h
  · decide
  · decide
  · decide
  · have : ([-100000, -100001, 50] : List Int)[q]? = none := by simp; omega
    simp [pk0, nth, this]
theorem pk1_bd (q : Nat) : -200000 ≤ pk1 q ∧ pk1 q ≤ 200000 := by
  rcases (by omega : q = 0 ∨ q = 1 ∨ q = 2 ∨ 3 ≤ q) with rfl | rfl | rfl | h
  · decide
  · decide
  · decide
  · have : ([-100000, 100000, 100001] : List Int)[q]? = none := by simp; omega
    simp [pk1, nth, this]
/-- Where the loop of the second list stands. -/
structure YsAt (b : Nat × Nat → Nat × (Nat × Nat)) (n : Nat) (T0 : Nat × Nat) (k : Nat) (ys : List Int) (T : Nat × Nat) : Prop where
  le : k ≤ n
  len : ys.length = k
  rest : ys ++ (ysG b (n - k) T).1 = (ysG b n T0).1 ∧ (ysG b (n - k) T).2 = (ysG b n T0).2
theorem YsAt.next {b : Nat × Nat → Nat × (Nat × Nat)} {n : Nat} {T0 : Nat × Nat} {k : Nat} {ys : List Int} {T : Nat × Nat} (h : YsAt b n T0 k ys T) (hk : k < n) :
    YsAt b n T0 (k + 1) (ys ++ [((blG b 81 T).1 : Int) - 40]) (blG b 81 T).2 := by
  obtain ⟨r1, r2⟩ := h.rest
  rw [show n - k = (n - (k + 1)) + 1 by omega, ysG_succ] at r1 r2
  exact ⟨by omega, by rw [List.length_append, h.len]; rfl, ⟨by rw [List.append_assoc]; exact r1, r2⟩⟩
theorem YsAt.done {b : Nat × Nat → Nat × (Nat × Nat)} {n : Nat} {T0 : Nat × Nat} {ys : List Int} {T : Nat × Nat} (h : YsAt b n T0 n ys T) : ysG b n T0 = (ys, T) := by
  obtain ⟨r1, r2⟩ := h.rest
  rw [Nat.sub_self, ysG_zero] at r1 r2
  rw [show ysG b n T0 = ((ysG b n T0).1, (ysG b n T0).2) from rfl, ← r1, ← r2]
  simp
theorem cuE_0 {b : Nat × Nat → Nat × (Nat × Nat)} {xs ys : List Int} {s : Nat × Nat} : cuE b 0 xs ys s = ((xs.set 0 (pk0 (blG b 3 s).1), ys), (blG b 3 s).2) := rfl
theorem cuE_1 {b : Nat × Nat → Nat × (Nat × Nat)} {xs ys : List Int} {s : Nat × Nat} : cuE b 1 xs ys s = ((xs, ys.set 1 (pk1 (blG b 3 s).1)), (blG b 3 s).2) := rfl
theorem cuE_2 {b : Nat × Nat → Nat × (Nat × Nat)} {xs ys : List Int} {s : Nat × Nat} : cuE b 2 xs ys s = ((xs, ys ++ [3]), s) := rfl
theorem cuE_3 {b : Nat × Nat → Nat × (Nat × Nat)} {xs ys : List Int} {s : Nat × Nat} : cuE b 3 xs ys s = (((riG b 3 (20 + (blG b 2 s).1) 0 (blG b 2 s).2).1, List.replicate (20 + (blG b 2 s).1) 0), (riG b 3 (20 + (blG b 2 s).1) 0 (blG b 2 s).2).2) := rfl
theorem cuE_4 {b : Nat × Nat → Nat × (Nat × Nat)} {xs ys : List Int} {s : Nat × Nat} : cuE b 4 xs ys s = (([4], [5]), s) := rfl
theorem cuE_5 {b : Nat × Nat → Nat × (Nat × Nat)} {c : Nat} {xs ys : List Int} {s : Nat × Nat} (h : 5 ≤ c) : cuE b c xs ys s = ((xs, ys), s) := by
  unfold cuE
  rw [if_neg (by omega), if_neg (by omega), if_neg (by omega), if_neg (by omega), if_neg (by omega)]
theorem cuG_at {b : Nat × Nat → Nat × (Nat × Nat)} {S T1 T2 T3 T4 T5 : Nat × Nat} {n n1 n2 c : Nat} {lw : Int} {xs ys : List Int} (h1 : blG b 6 S = (n1, T1)) (h2 : blG b 30 T1 = (n2, T2)) (hn : n = 2 + n1) (hl : (n2 : Int) - 15 = lw) (h3 : riG b 12 n lw T2 = (xs, T3)) (h4 : ysG b n T3 = (ys, T4)) (h5 : blG b 30 T4 = (c, T5)) :
    cuG b S = cuE b c xs ys T5 := by
  unfold cuG cuD
  simp only [h1, h2, ← hn, hl, h3, h4, h5]

set_option maxRecDepth 20000 in
set_option maxHeartbeats 4000000 in
theorem l1DrawCurve_x {w : World} {C : Nat} {a : Option Addr} {len cap : Nat} {bs : Nat → Nat} {S : Nat × Nat} (W : World) (hd : DrX w C a len cap bs S W) (hin : ∀ b off, a = some ⟨b, off, none⟩ → b < w.heap.size) :
    Calls Try.prog 11 #[.pointer (some ⟨C, 0, none⟩)] W fun e w' => CuX w C a len cap bs W S e w' := by
  obtain ⟨W0, hW0⟩ : ∃ W0, W0 = W.alloc (Obj.cells #[.slice none 0 0, .slice none 0 0] 26) := ⟨_, rfl⟩
  obtain ⟨R, hR⟩ : ∃ R, W.heap.size = R := ⟨_, rfl⟩
  have bW : Below W.heap.size W W0 := by rw [hW0]; exact bel1 _
  have Z0 : Hid (Ce w C R a len cap bs W S W0 (.slice none 0 0) (.slice none 0 0) [] []) := hide ⟨hd.below bW, hin, by rw [← hR]; exact hd.d.lt, by rw [hW0, ← hR]; exact Blk.new [.slice none 0 0, .slice none 0 0] 26, ownI_nilT _ _, ownI_nilT _ _, Kp.of_below bW (by omega), hR.symm⟩
  have HW0 := hide hW0
  have HR := hide hR
  have HIN := hide hin
  clear hd bW hW0 hR hin
  go_enter Try.func11, Try.ntmps11
  go_wp2_with fail
  rw [← unhide HW0, unhide HR]
  clear HW0 HR
  refine (l1Below_x1 6 _ (unhide Z0).d rfl (by omega)).mono ?_
  rintro e w1 ⟨rfl, d, gr⟩
  have hb1 := bl_lt (byS bs len) S (show 0 < 6 by omega)
  obtain ⟨n1, T1, hn1⟩ : ∃ n1 T1, blG (byS bs len) 6 S = (n1, T1) := ⟨_, _, rfl⟩
  rw [hn1] at d hb1
  rw [hn1]
  have Z1 := hide ((unhide Z0).call gr d)
  have HN1 := hide hn1
  obtain ⟨n, hn⟩ : ∃ n : Nat, n = 2 + n1 := ⟨_, rfl⟩
  have hnI : 2 + (n1 : Int) = (n : Int) := by omega
  have hnb : 2 ≤ n ∧ n ≤ 7 := by have : n1 < 6 := hb1; omega
  have hn1b : (n1 : Int) < 6 := by have : n1 < 6 := hb1; omega
  have HN := hide hn
  clear d gr Z0 hn1 hb1 hn
  dsimp only
  go_wp2_with fail
  refine (l1Below_x1 30 _ (unhide Z1).d rfl (by omega)).mono ?_
  rintro e w2 ⟨rfl, d, gr⟩
  have hb1 := bl_lt (byS bs len) T1 (show 0 < 30 by omega)
  obtain ⟨n2, T2, hn2⟩ : ∃ n1 T1', blG (byS bs len) 30 T1 = (n1, T1') := ⟨_, _, rfl⟩
  rw [hn2] at d hb1
  rw [hn2]
  have Z2 := hide ((unhide Z1).call gr d)
  have HN2 := hide hn2
  obtain ⟨lw, hlw⟩ : ∃ lw, (n2 : Int) - 15 = lw := ⟨_, rfl⟩
  have hlb : -15 ≤ lw ∧ lw ≤ 15 := by have : n2 < 30 := hb1; omega
  have hn2b : (n2 : Int) < 30 := by have : n2 < 30 := hb1; omega
  clear d gr Z1 hn2 hb1
  dsimp only
  go_wp2_with fail
  refine (l1DrawRise_x1 n 12 lw _ (unhide Z2).d (unhide HIN) (by omega) rfl (by omega) (by omega) (by omega)).mono ?_
  rintro e w3 ⟨g1, c1, rfl, o1, d, kp⟩
  obtain ⟨xs, T3, hxs⟩ : ∃ xs T3, riG (byS bs len) 12 n lw T2 = (xs, T3) := ⟨_, _, rfl⟩
  have hl1 : xs.length = n := by have := riG_len (byS bs len) 12 n lw T2; rw [hxs] at this; exact this
  rw [hxs] at o1 d
  have gr := kp.grown
  have Z3 := hide ((unhide Z2).call gr d)
  have HXS := hide hxs
  have HLW := hide hlw
  have HL1 := hide hl1
  obtain ⟨G, hG⟩ : ∃ G, w3.heap.size = G := ⟨_, rfl⟩
  obtain ⟨V, hV⟩ : ∃ V, V = w3.alloc (Obj.cells #[.slice (some ⟨g1, 0, none⟩) n c1, .slice none 0 0] 26) := ⟨_, rfl⟩
  have A0 : Hid (Cd w C R G a len cap bs W T3 V (.slice (some ⟨g1, 0, none⟩) n c1) (.slice none 0 0) xs []) := hide (by
    have bV : Below w3.heap.size w3 V := by rw [hV]; exact bel1 _
    have z := (unhide Z3).below bV
    have hr2 := (unhide Z2).r.lt
    have hr3 := (unhide Z3).r.lt
    have lg := (o1.lies g1 rfl).2
    refine ⟨⟨z.d, z.inn, z.cr, z.r, (o1.below bV).mono (by omega), ownI_nilT _ _, z.kp, z.hr⟩, by omega, ?_, fun e => ?_, by simp [Value.ownBlock], fun g hg => by simp [Value.ownBlock] at hg⟩
    · rw [hV, ← hG]; exact Blk.new [.slice (some ⟨g1, 0, none⟩) n c1, .slice none 0 0] 26
    · have := Option.some.inj (show some g1 = some G from e); omega)
  have Y0 : Hid (YsAt (byS bs len) n T3 0 [] T3) := hide ⟨Nat.zero_le _, rfl, rfl, rfl⟩
  have HV := hide hV
  have HG := hide hG
  clear o1 d kp gr hV hG Z3 Z2 hxs hlw hl1
  go_wp2_with fail
  rw [← unhide HV, unhide HG]
  clear HV HG
  go_loopw [4] (fun i wr => ∃ (k : Nat) (vY : Value) (ys : List Int) (T : Nat × Nat), i = .int .i64 (k : Int) ∧ k ≤ n ∧ Hid (YsAt (byS bs len) n T3 k ys T) ∧ Hid (Cd w C R G a len cap bs W T wr (.slice (some ⟨g1, 0, none⟩) n c1) vY xs ys)) (fun i _ => n - (intOf i).toNat)
  case atStart => exact ⟨0, _, [], T3, rfl, Nat.zero_le _, Y0, A0⟩
  case round =>
    clear A0 Y0
    obtain ⟨k, vY, ys, T, rfl, hk, YY, HS⟩ := hrel
    have p0 : wr.cell? ⟨G, 0, none⟩ = some (.slice (some ⟨g1, 0, none⟩) n c1) := (unhide HS).p.c 0 (by simp)
    have p1 : wr.cell? ⟨G, 1, none⟩ = some vY := (unhide HS).p.c 1 (by simp)
    by_cases hlt : k < n
    · have hlt2 : (k : Int) < (n : Int) := by omega
      have HL : Hid (ys.length = k) := hide (unhide YY).len
      have hbl := bl_lt (byS bs len) T (show 0 < 81 by omega)
      obtain ⟨y, T9, hy⟩ : ∃ y T9, blG (byS bs len) 81 T = (y, T9) := ⟨_, _, rfl⟩
      rw [hy] at hbl
      have hyb : (0 : Int) ≤ (y : Int) ∧ (y : Int) ≤ 80 := by have : y < 81 := hbl; omega
      have HYY := hide hy
      clear hbl hy
      go_wp2_with fail
      go_region_law (first
        | ((fail_if_success have := D1); go_simp; go_wp2_with (go_at_call 13; refine (l1Below_e (w := w) (a := a) (len := len) (cap := cap) 81 _ (by first | exact (unhide HS).d | exact ((unhide HS).below (bel0d 1)).d) rfl (by omega) (unhide HYY)).mono ?_; rintro e u1 ⟨rfl, d, gr⟩; have D1 : Hid (Cd w C R G a len cap bs W T9 u1 (.slice (some ⟨g1, 0, none⟩) n c1) vY xs ys) := hide (Cd.call (by first | exact unhide HS | exact (unhide HS).below (bel0d 1)) gr d); have p1a : u1.cell? ⟨G, 1, none⟩ = some vY := (unhide D1).p.c 1 (by simp); have p1b : ∀ o, (u1.alloc o).cell? ⟨G, 1, none⟩ = some vY := (fun o => ((unhide D1).p.alloc o).c 1 (by simp)); clear d gr))
        | (refine step_app_int rfl (.tmp 22) (.tmp 26) rfl (n := k) (IntKind.i64.wrap ((y : Int) - 40)) (unhide D1).oY (unhide HL) (by simp [Act.eval]) rfl (by simp [Act.eval]) (by have := (unhide D1).r.lt; omega) (by omega) (by rw [IntKind.wrap_i64]; omega) ?_; intro g9 c9 w9 o9 gr9 at9; have p9 := (unhide D1).p.apart gr9 (fun e => (unhide D1).nY e.symm); have q9 : w9.cell? ⟨G, 1, none⟩ = some vY := p9.c 1 (by simp); have f9 : w9.frozen? ⟨G, 1, none⟩ = false := p9.f 1 (by simp)))
      all_goals
        go_wp2_with fail
        go_roundw
        case rel => exact ⟨k + 1, _, _, _, by go_num, by omega, hide (by have h := (unhide YY).next hlt; rw [unhide HYY] at h; rw [show IntKind.i64.wrap ((y : Int) - 40) = (y : Int) - 40 by rw [IntKind.wrap_i64]; omega]; exact h), hide ((unhide D1).pushY o9 gr9 at9)⟩
        case measure => simp [intOf]; omega
    · obtain rfl : n = k := by omega
      have hlt2 : ¬ (n : Int) < (n : Int) := by omega
      clear hlt hk
      have hys := (unhide YY).done
      have HL2 : Hid (ys.length = n) := hide (unhide YY).len
      have hbc := bl_lt (byS bs len) T (show 0 < 30 by omega)
      obtain ⟨c, T5, hc⟩ : ∃ c T5, blG (byS bs len) 30 T = (c, T5) := ⟨_, _, rfl⟩
      rw [hc] at hbc
      have hcb : c < 30 := hbc
      have HCU : Hid (cuG (byS bs len) S = cuE (byS bs len) c xs ys T5) := hide (cuG_at (unhide HN1) (unhide HN2) (unhide HN) (unhide HLW) (unhide HXS) hys hc)
      have HC := hide hc
      clear hys hc hbc
      go_wp2_with fail
      clear hlt2
      refine (l1Below_e 30 _ (unhide HS).d rfl (by omega) (unhide HC)).mono ?_
      rintro e w5 ⟨rfl, d, gr⟩
      have H5 := hide ((unhide HS).call gr d)
      clear d gr HS p0 p1
      obtain ⟨g2, c2, hvY⟩ : ∃ g2 c2, vY = .slice (some ⟨g2, 0, none⟩) n c2 := by
        rcases (unhide H5).oY.form with ⟨_, e⟩ | ⟨g', c', e, _⟩
        · have := unhide HL2; rw [e] at this; simp at this; omega
        · rw [unhide HL2] at e; exact ⟨g', c', e⟩
      subst hvY
      have HRG := hide (unhide H5).rg
      have nrg : ¬ G = R := by have := unhide HRG; omega
      have nrg2 : ¬ R = G := by have := unhide HRG; omega
      have lX := (unhide H5).oX.lies g1 rfl
      have lY := (unhide H5).oY.lies g2 rfl
      have n1' : ¬ g1 = G := fun e => (unhide H5).nX (by rw [e]; rfl)
      have n2' : ¬ G = g1 := fun e => n1' e.symm
      have n3 : ¬ g1 = R := by omega
      have n4 : ¬ R = g1 := by omega
      have n5 : ¬ g2 = G := fun e => (unhide H5).nY (by rw [e]; rfl)
      have n6 : ¬ G = g2 := fun e => n5 e.symm
      have n7 : ¬ g2 = R := by omega
      have n8 : ¬ R = g2 := by omega
      have hn7 : (n : Int) ≤ 7 := by omega
      rcases (show c = 0 ∨ c = 1 ∨ c = 2 ∨ c = 3 ∨ c = 4 ∨ 5 ≤ c by omega) with rfl | rfl | rfl | rfl | rfl | h5
      · skip
        have RL : Hid (Row (w5.alloc (Obj.cells #[.int .i64 (-100000), .int .i64 (-100001), .int .i64 50] 3)) (some ⟨w5.heap.size, 0, none⟩) 3 [-100000, -100001, 50]) := hide (row_lit w5 [-100000, -100001, 50] 3 (by simp) (by decide))
        have DD : Hid (Cd w C R G a len cap bs W T5 (w5.alloc (Obj.cells #[.int .i64 (-100000), .int .i64 (-100001), .int .i64 50] 3)) (.slice (some ⟨g1, 0, none⟩) n c1) (.slice (some ⟨g2, 0, none⟩) n c2) xs ys) := hide ((unhide H5).below (bel1 _))
        have gne : Hid (w5.heap.size ≠ C) := hide (by have := (unhide H5).d.d.lt; omega)
        have v1 : w5.cell? ⟨G, 0, none⟩ = some (.slice (some ⟨g1, 0, none⟩) n c1) := (unhide H5).p.c 0 (by simp)
        have v2 : ∀ o, (w5.alloc o).cell? ⟨G, 0, none⟩ = some (.slice (some ⟨g1, 0, none⟩) n c1) := fun o => ((unhide H5).p.alloc o).c 0 (by simp)
        have hS0 : w5.cell? ⟨g1, 0, none⟩ = some (.int .i64 (nth xs 0)) := (own_at (unhide H5).oX (unhide HL1) 0 (by omega)).1
        have hi1 : (0 : Int) < (n : Int) := by omega
        have hi2 : 0 < n := by omega
        go_wp2_with fail
        obtain ⟨q, T6, hq⟩ : ∃ q T6, blG (byS bs len) 3 T5 = (q, T6) := ⟨_, _, rfl⟩
        obtain ⟨x, hx⟩ : ∃ x, pk0 q = x := ⟨_, rfl⟩
        have bx : -200000 ≤ x ∧ x ≤ 200000 := by rw [← hx]; exact pk0_bd _
        have HE : Hid (cuG (byS bs len) S = (((xs.set 0 x, ys)), T6)) := hide (by rw [unhide HCU, cuE_0, hq, hx])
        have HQ := hide hq
        have HX := hide hx
        clear hq hx
        go_region_law ((fail_if_success have := D1); go_simp; go_wp2_with (go_at_call 23; refine (l1PickInt_e (w := w) (a := a) (len := len) (cap := cap) _ 3 3 [-100000, -100001, 50] _ (by first | exact (unhide DD).d | exact ((unhide DD).below (bel0d 1)).d) (by first | exact unhide RL | exact (unhide RL).below (bel0d 1)) (unhide gne) (by omega) (unhide HQ) (unhide HX)).mono ?_; rintro e u1 ⟨rfl, d, gr⟩; have D1 : Hid (Cd w C R G a len cap bs W T6 u1 (.slice (some ⟨g1, 0, none⟩) n c1) (.slice (some ⟨g2, 0, none⟩) n c2) xs ys) := hide (Cd.call (by first | exact unhide DD | exact (unhide DD).below (bel0d 1)) gr d); have v3 : u1.cell? ⟨G, 0, none⟩ = some (.slice (some ⟨g1, 0, none⟩) n c1) := (unhide D1).p.c 0 (by simp); have y0 := (own_at (unhide D1).oX (unhide HL1) 0 (by omega)).1; have y1 := (own_at (unhide D1).oX (unhide HL1) 0 (by omega)).2; clear d gr))
        all_goals
          have pe0 : u1.cell? ⟨G, 0, none⟩ = some (.slice (some ⟨g1, 0, none⟩) n c1) := (unhide D1).p.c 0 (by simp)
          have pf0 : u1.frozen? ⟨G, 0, none⟩ = false := (unhide D1).p.f 0 (by simp)
          have pe1 : u1.cell? ⟨G, 1, none⟩ = some (.slice (some ⟨g2, 0, none⟩) n c2) := (unhide D1).p.c 1 (by simp)
          have pf1 : u1.frozen? ⟨G, 1, none⟩ = false := (unhide D1).p.f 1 (by simp)
          have re0 : u1.cell? ⟨R, 0, none⟩ = some (.slice none 0 0) := (unhide D1).r.c 0 (by simp)
          have rf0 : u1.frozen? ⟨R, 0, none⟩ = false := (unhide D1).r.f 0 (by simp)
          have re1 : u1.cell? ⟨R, 1, none⟩ = some (.slice none 0 0) := (unhide D1).r.c 1 (by simp)
          have rf1 : u1.frozen? ⟨R, 1, none⟩ = false := (unhide D1).r.f 1 (by simp)
          have H7 := hide ((unhide D1).setX (unhide HL1) 0 (by omega) x bx)
          go_wp2_with fail
          exact bodyPost_ret (results_cell (vs := [.slice (some ⟨g1, 0, none⟩) n c1, .slice (some ⟨g2, 0, none⟩) n c2]) rfl Try.isAgg26 Try.sizeOf26 rfl ((unhide H7).told (unhide HE)).1) rfl ((unhide H7).told (unhide HE)).2
      · skip
        have RL : Hid (Row (w5.alloc (Obj.cells #[.int .i64 (-100000), .int .i64 100000, .int .i64 100001] 3)) (some ⟨w5.heap.size, 0, none⟩) 3 [-100000, 100000, 100001]) := hide (row_lit w5 [-100000, 100000, 100001] 3 (by simp) (by decide))
        have DD : Hid (Cd w C R G a len cap bs W T5 (w5.alloc (Obj.cells #[.int .i64 (-100000), .int .i64 100000, .int .i64 100001] 3)) (.slice (some ⟨g1, 0, none⟩) n c1) (.slice (some ⟨g2, 0, none⟩) n c2) xs ys) := hide ((unhide H5).below (bel1 _))
        have gne : Hid (w5.heap.size ≠ C) := hide (by have := (unhide H5).d.d.lt; omega)
        have v1 : w5.cell? ⟨G, 1, none⟩ = some (.slice (some ⟨g2, 0, none⟩) n c2) := (unhide H5).p.c 1 (by simp)
        have v2 : ∀ o, (w5.alloc o).cell? ⟨G, 1, none⟩ = some (.slice (some ⟨g2, 0, none⟩) n c2) := fun o => ((unhide H5).p.alloc o).c 1 (by simp)
        have hS0 : w5.cell? ⟨g2, 1, none⟩ = some (.int .i64 (nth ys 1)) := (own_at (unhide H5).oY (unhide HL2) 1 (by omega)).1
        have hi1 : (1 : Int) < (n : Int) := by omega
        have hi2 : 1 < n := by omega
        go_wp2_with fail
        obtain ⟨q, T6, hq⟩ : ∃ q T6, blG (byS bs len) 3 T5 = (q, T6) := ⟨_, _, rfl⟩
        obtain ⟨x, hx⟩ : ∃ x, pk1 q = x := ⟨_, rfl⟩
        have bx : -200000 ≤ x ∧ x ≤ 200000 := by rw [← hx]; exact pk1_bd _
        have HE : Hid (cuG (byS bs len) S = (((xs, ys.set 1 x)), T6)) := hide (by rw [unhide HCU, cuE_1, hq, hx])
        have HQ := hide hq
        have HX := hide hx
        clear hq hx
        go_region_law ((fail_if_success have := D1); go_simp; go_wp2_with (go_at_call 23; refine (l1PickInt_e (w := w) (a := a) (len := len) (cap := cap) _ 3 3 [-100000, 100000, 100001] _ (by first | exact (unhide DD).d | exact ((unhide DD).below (bel0d 1)).d) (by first | exact unhide RL | exact (unhide RL).below (bel0d 1)) (unhide gne) (by omega) (unhide HQ) (unhide HX)).mono ?_; rintro e u1 ⟨rfl, d, gr⟩; have D1 : Hid (Cd w C R G a len cap bs W T6 u1 (.slice (some ⟨g1, 0, none⟩) n c1) (.slice (some ⟨g2, 0, none⟩) n c2) xs ys) := hide (Cd.call (by first | exact unhide DD | exact (unhide DD).below (bel0d 1)) gr d); have v3 : u1.cell? ⟨G, 1, none⟩ = some (.slice (some ⟨g2, 0, none⟩) n c2) := (unhide D1).p.c 1 (by simp); have y0 := (own_at (unhide D1).oY (unhide HL2) 1 (by omega)).1; have y1 := (own_at (unhide D1).oY (unhide HL2) 1 (by omega)).2; clear d gr))
        all_goals
          have pe0 : u1.cell? ⟨G, 0, none⟩ = some (.slice (some ⟨g1, 0, none⟩) n c1) := (unhide D1).p.c 0 (by simp)
          have pf0 : u1.frozen? ⟨G, 0, none⟩ = false := (unhide D1).p.f 0 (by simp)
          have pe1 : u1.cell? ⟨G, 1, none⟩ = some (.slice (some ⟨g2, 0, none⟩) n c2) := (unhide D1).p.c 1 (by simp)
          have pf1 : u1.frozen? ⟨G, 1, none⟩ = false := (unhide D1).p.f 1 (by simp)
          have re0 : u1.cell? ⟨R, 0, none⟩ = some (.slice none 0 0) := (unhide D1).r.c 0 (by simp)
          have rf0 : u1.frozen? ⟨R, 0, none⟩ = false := (unhide D1).r.f 0 (by simp)
          have re1 : u1.cell? ⟨R, 1, none⟩ = some (.slice none 0 0) := (unhide D1).r.c 1 (by simp)
          have rf1 : u1.frozen? ⟨R, 1, none⟩ = false := (unhide D1).r.f 1 (by simp)
          have H7 := hide ((unhide D1).setY (unhide HL2) 1 (by omega) x bx)
          go_wp2_with fail
          exact bodyPost_ret (results_cell (vs := [.slice (some ⟨g1, 0, none⟩) n c1, .slice (some ⟨g2, 0, none⟩) n c2]) rfl Try.isAgg26 Try.sizeOf26 rfl ((unhide H7).told (unhide HE)).1) rfl ((unhide H7).told (unhide HE)).2
      · skip
        have v4 : w5.cell? ⟨G, 1, none⟩ = some (.slice (some ⟨g2, 0, none⟩) n c2) := (unhide H5).p.c 1 (by simp)
        go_wp2_with (at_builtin; refine wpList_app_intA rfl (.tmp 50) (.tmp 51) rfl 3 (unhide H5).oY (unhide HL2) rfl rfl rfl (by have := (unhide H5).r.lt; omega) (by omega) (by omega) ?_; intro g8 c8 w8 o8 gr8 at8; have p9 := (unhide H5).p.apart gr8 (fun e => (unhide H5).nY e.symm); have r9 := (unhide H5).r.apart gr8 (fun e => by have := (unhide H5).oY.lies _ e.symm; omega); have H7 := hide ((unhide H5).pushY o8 gr8 at8).toCe; have z0 : w8.cell? ⟨G, 0, none⟩ = some (.slice (some ⟨g1, 0, none⟩) n c1) := p9.c 0 (by simp); have z1 : w8.cell? ⟨G, 1, none⟩ = some (.slice (some ⟨g2, 0, none⟩) n c2) := p9.c 1 (by simp); have z3 : w8.frozen? ⟨G, 1, none⟩ = false := p9.f 1 (by simp); have y0 : w8.cell? ⟨R, 0, none⟩ = some (.slice none 0 0) := r9.c 0 (by simp); have y1 : w8.cell? ⟨R, 1, none⟩ = some (.slice none 0 0) := r9.c 1 (by simp); have f0 : w8.frozen? ⟨R, 0, none⟩ = false := r9.f 0 (by simp); have f1 : w8.frozen? ⟨R, 1, none⟩ = false := r9.f 1 (by simp))
        have HE : Hid (cuG (byS bs len) S = ((xs, ys ++ [3]), T5)) := hide (by rw [unhide HCU, cuE_2])
        exact bodyPost_ret (results_cell (vs := [.slice (some ⟨g1, 0, none⟩) n c1, .slice (some ⟨g8, 0, none⟩) (n + 1) c8]) rfl Try.isAgg26 Try.sizeOf26 rfl ((unhide H7).told (unhide HE)).1) rfl ((unhide H7).told (unhide HE)).2
      · skip
        have hb2 := bl_lt (byS bs len) T5 (show 0 < 2 by omega)
        obtain ⟨n3', T6, hn3⟩ : ∃ n3' T6, blG (byS bs len) 2 T5 = (n3', T6) := ⟨_, _, rfl⟩
        rw [hn3] at hb2
        have hb3 : n3' < 2 := hb2
        have HN3 := hide hn3
        clear hn3 hb2
        obtain ⟨m, hm⟩ : ∃ m : Nat, m = 20 + n3' := ⟨_, rfl⟩
        have hmI : 20 + (n3' : Int) = (m : Int) := by omega
        have hmb : 20 ≤ m ∧ m ≤ 21 := by omega
        have HM := hide hm
        clear hm
        go_wp2_with fail
        refine (l1Below_e 2 _ (unhide H5).d rfl (by omega) (unhide HN3)).mono ?_
        rintro e w6 ⟨rfl, d, gr⟩
        have H6 := hide ((unhide H5).call gr d)
        clear d gr
        go_wp2_with fail
        refine (l1DrawRise_x1 m 3 0 _ (unhide H6).d (unhide HIN) (by omega) rfl (by omega) (by omega) (by omega)).mono ?_
        rintro e w7 ⟨g7, c7, rfl, o7, d, kp⟩
        obtain ⟨zs, T7, hzs⟩ : ∃ zs T7, riG (byS bs len) 3 m 0 T6 = (zs, T7) := ⟨_, _, rfl⟩
        rw [hzs] at o7 d
        have H7 := hide ((unhide H6).call kp.grown d)
        have HE : Hid (cuG (byS bs len) S = ((zs, List.replicate m 0), T7)) := hide (by rw [unhide HCU, cuE_3]; simp only [unhide HN3, ← unhide HM, hzs])
        have o7b := hide o7
        have s67 := kp.size
        have s6 := (unhide H6).p.lt
        have s6r := (unhide H6).r.lt
        have l7 := o7.lies g7 rfl
        have HZL : Hid (zs.length = m) := hide (by have := riG_len (byS bs len) 3 m 0 T6; rw [hzs] at this; exact this)
        clear o7 d kp hzs
        have pe0 : w7.cell? ⟨G, 0, none⟩ = some (.slice (some ⟨g1, 0, none⟩) n c1) := (unhide H7).p.c 0 (by simp)
        have pf0 : w7.frozen? ⟨G, 0, none⟩ = false := (unhide H7).p.f 0 (by simp)
        have pe1 : w7.cell? ⟨G, 1, none⟩ = some (.slice (some ⟨g2, 0, none⟩) n c2) := (unhide H7).p.c 1 (by simp)
        have pf1 : w7.frozen? ⟨G, 1, none⟩ = false := (unhide H7).p.f 1 (by simp)
        have m0 : (0 : Int) ≤ (m : Int) := by omega
        have mk := madeI_run (L := m) (by omega)
        have mk2 := fun W => mk W
        obtain ⟨V7, hV7⟩ : ∃ V, V = w7.setCell ⟨G, 0, none⟩ (.slice (some ⟨g7, 0, none⟩) m c7) := ⟨_, rfl⟩
        have ng7 : ¬ g7 = G := by omega
        have E7 : Ce w C R a len cap bs W T7 V7 (.slice (some ⟨g7, 0, none⟩) m c7) (.slice (some ⟨g2, 0, none⟩) n c2) zs ys := by
          have e := (unhide H7).toCe
          rw [hV7]
          exact (Ce.put ⟨e.d, e.inn, e.cr, e.r, (unhide o7b).mono (by omega), e.oY, e.kp, e.hr⟩ (unhide H7).rg _ (fun q => ng7 (Option.some.inj q)) (unhide H7).nY)
        have P7 : Blk V7 G [.slice (some ⟨g7, 0, none⟩) m c7, .slice (some ⟨g2, 0, none⟩) n c2] := by rw [hV7]; simpa using (unhide H7).p.set 0 (by simp) (.slice (some ⟨g7, 0, none⟩) m c7)
        obtain ⟨V8, hV8⟩ : ∃ V, V = V7.alloc (.cells (madeCells #[.int .i64 0] m) 3) := ⟨_, rfl⟩
        have b8 : Below V7.heap.size V7 V8 := by rw [hV8]; exact bel1 _
        have hVG : V7.heap.size ≠ G := by have := P7.lt; omega
        have E8 : Ce w C R a len cap bs W T7 (V8.setCell ⟨G, 1, none⟩ (.slice (some ⟨V7.heap.size, 0, none⟩) m m)) (.slice (some ⟨g7, 0, none⟩) m c7) (.slice (some ⟨V7.heap.size, 0, none⟩) m m) zs (List.replicate m 0) := by
          have e := E7.below b8
          have lr := E7.r.lt
          have oz : OwnI V8 (R + 1) (.slice (some ⟨V7.heap.size, 0, none⟩) m m) (List.replicate m 0) := by
            have o := ownI_madeT V7 (R + 1) m (by omega) (by omega)
            rw [hV8]; exact o
          exact (Ce.put ⟨e.d, e.inn, e.cr, e.r, e.oX, oz, e.kp, e.hr⟩ (unhide H7).rg _ (fun q => ng7 (Option.some.inj q)) (fun q => hVG (Option.some.inj q)))
        have HE8 := hide E8
        have x0 : V7.cell? ⟨G, 0, none⟩ = some (.slice (some ⟨g7, 0, none⟩) m c7) := P7.c 0 (by simp)
        have P8 := hide (P7.below b8)
        have x1 : V8.cell? ⟨G, 0, none⟩ = some (.slice (some ⟨g7, 0, none⟩) m c7) := (unhide P8).c 0 (by simp)
        have x2 : V8.cell? ⟨G, 1, none⟩ = some (.slice (some ⟨g2, 0, none⟩) n c2) := (unhide P8).c 1 (by simp)
        have x3 : V8.frozen? ⟨G, 1, none⟩ = false := (unhide P8).f 1 (by simp)
        have re0 : V8.cell? ⟨R, 0, none⟩ = some (.slice none 0 0) := (E7.r.below b8).c 0 (by simp)
        have rf0 : V8.frozen? ⟨R, 0, none⟩ = false := (E7.r.below b8).f 0 (by simp)
        have re1 : V8.cell? ⟨R, 1, none⟩ = some (.slice none 0 0) := (E7.r.below b8).c 1 (by simp)
        have rf1 : V8.frozen? ⟨R, 1, none⟩ = false := (E7.r.below b8).f 1 (by simp)
        have HV7 := hide hV7
        have HV8 := hide hV8
        clear hV7 hV8 E7 P7 E8 b8 mk mk2 s67 s6 s6r l7
        go_upto_region 15 with fail
        rw [← unhide HV7]
        have mk3 : (Instr.makeSlice 24 (.int .i64 (m : Int)) (.int .i64 (m : Int))).run Try.prog V7 = .ok (.slice (some ⟨V7.heap.size, 0, none⟩) m m) V8 := by rw [unhide HV8]; exact madeI_run (by omega) V7
        clear HV7 pe0 pf0 pe1 pf1
        go_wp2_with fail
        exact bodyPost_ret (results_cell (vs := [.slice (some ⟨g7, 0, none⟩) m c7, .slice (some ⟨V7.heap.size, 0, none⟩) m m]) rfl Try.isAgg26 Try.sizeOf26 rfl ((unhide HE8).told (unhide HE)).1) rfl ((unhide HE8).told (unhide HE)).2
      · skip
        have pe0 : w5.cell? ⟨G, 0, none⟩ = some (.slice (some ⟨g1, 0, none⟩) n c1) := (unhide H5).p.c 0 (by simp)
        have pf0 : w5.frozen? ⟨G, 0, none⟩ = false := (unhide H5).p.f 0 (by simp)
        have pe1 : w5.cell? ⟨G, 1, none⟩ = some (.slice (some ⟨g2, 0, none⟩) n c2) := (unhide H5).p.c 1 (by simp)
        have pf1 : w5.frozen? ⟨G, 1, none⟩ = false := (unhide H5).p.f 1 (by simp)
        obtain ⟨V1, hV1⟩ : ∃ V, V = w5.alloc (Obj.cells #[.int .i64 4] 3) := ⟨_, rfl⟩
        obtain ⟨V2, hV2⟩ : ∃ V, V = V1.alloc (Obj.cells #[.int .i64 5] 3) := ⟨_, rfl⟩
        have b1 : Below w5.heap.size w5 V1 := by rw [hV1]; exact bel1 _
        have b2 : Below V1.heap.size V1 V2 := by rw [hV2]; exact bel1 _
        have s5 := (unhide H5).p.lt
        have s5r := (unhide H5).r.lt
        have e1 : V1.heap.size = w5.heap.size + 1 := by rw [hV1]; simp
        have o1 : OwnI V2 (R + 1) (.slice (some ⟨w5.heap.size, 0, none⟩) 1 1) [4] := (show OwnI V1 (R + 1) (.slice (some ⟨w5.heap.size, 0, none⟩) 1 1) [4] by rw [hV1]; exact ownI_oneT 4 (by omega) (by omega)).below b2
        have o2 : OwnI V2 (R + 1) (.slice (some ⟨V1.heap.size, 0, none⟩) 1 1) [5] := by rw [hV2]; exact ownI_oneT 5 (by omega) (by omega)
        have E1 := ((unhide H5).below (b1.trans (b2.mono b1.size))).toCe
        have nn1 : w5.heap.size ≠ G := by omega
        have nn2 : V1.heap.size ≠ G := by omega
        have E2 : Ce w C R a len cap bs W T5 V2 (.slice (some ⟨w5.heap.size, 0, none⟩) 1 1) (.slice (some ⟨V1.heap.size, 0, none⟩) 1 1) [4] [5] := ⟨E1.d, E1.inn, E1.cr, E1.r, o1, o2, E1.kp, E1.hr⟩
        have H7 := hide ((E2.put (o := 0) (unhide H5).rg (.slice (some ⟨w5.heap.size, 0, none⟩) 1 1) (fun q => nn1 (Option.some.inj q)) (fun q => nn2 (Option.some.inj q))).put (o := 1) (unhide H5).rg (.slice (some ⟨V1.heap.size, 0, none⟩) 1 1) (fun q => nn1 (Option.some.inj q)) (fun q => nn2 (Option.some.inj q)))
        have P2 := (unhide H5).p.below (b1.trans (b2.mono b1.size))
        have R2 := E2.r
        have re0 : V2.cell? ⟨R, 0, none⟩ = some (.slice none 0 0) := R2.c 0 (by simp)
        have rf0 : V2.frozen? ⟨R, 0, none⟩ = false := R2.f 0 (by simp)
        have re1 : V2.cell? ⟨R, 1, none⟩ = some (.slice none 0 0) := R2.c 1 (by simp)
        have rf1 : V2.frozen? ⟨R, 1, none⟩ = false := R2.f 1 (by simp)
        have pe0 : V2.cell? ⟨G, 0, none⟩ = some (.slice (some ⟨g1, 0, none⟩) n c1) := P2.c 0 (by simp)
        have pf0 : V2.frozen? ⟨G, 0, none⟩ = false := P2.f 0 (by simp)
        have pe1 : V2.cell? ⟨G, 1, none⟩ = some (.slice (some ⟨g2, 0, none⟩) n c2) := P2.c 1 (by simp)
        have pf1 : V2.frozen? ⟨G, 1, none⟩ = false := P2.f 1 (by simp)
        have HE : Hid (cuG (byS bs len) S = (([4], [5]), T5)) := hide (by rw [unhide HCU, cuE_4])
        have HS1 := hide e1
        have HV1 := hide hV1
        have HV2 := hide hV2
        clear hV1 hV2 b1 b2 e1 o1 o2 E1 E2 P2 R2 s5 s5r nn1 nn2
        have z1 : ¬ G = w5.heap.size := by have := (unhide H5).p.lt; omega
        have z2 : ¬ w5.heap.size = G := fun e => z1 e.symm
        have z3 : ¬ G = w5.heap.size + 1 := by have := (unhide H5).p.lt; omega
        have z4 : ¬ w5.heap.size + 1 = G := fun e => z3 e.symm
        have z5 : ¬ R = w5.heap.size := by have := (unhide H5).r.lt; omega
        have z6 : ¬ w5.heap.size = R := fun e => z5 e.symm
        have z7 : ¬ R = w5.heap.size + 1 := by have := (unhide H5).r.lt; omega
        have z8 : ¬ w5.heap.size + 1 = R := fun e => z7 e.symm
        have hG5 := (unhide H5).p.lt
        have hR5 := (unhide H5).r.lt
        clear re0 rf0 re1 rf1 pe0 pf0 pe1 pf1
        have ra0 : ∀ o o', ((w5.alloc o).alloc o').cell? ⟨R, 0, none⟩ = some (.slice none 0 0) := fun o o' => (((unhide H5).r.alloc o).alloc o').c 0 (by simp)
        have ra1 : ∀ o o', ((w5.alloc o).alloc o').cell? ⟨R, 1, none⟩ = some (.slice none 0 0) := fun o o' => (((unhide H5).r.alloc o).alloc o').c 1 (by simp)
        have rb0 : ∀ o o', ((w5.alloc o).alloc o').frozen? ⟨R, 0, none⟩ = false := fun o o' => (((unhide H5).r.alloc o).alloc o').f 0 (by simp)
        have rb1 : ∀ o o', ((w5.alloc o).alloc o').frozen? ⟨R, 1, none⟩ = false := fun o o' => (((unhide H5).r.alloc o).alloc o').f 1 (by simp)
        have pa0 : ∀ o o', ((w5.alloc o).alloc o').cell? ⟨G, 0, none⟩ = some (.slice (some ⟨g1, 0, none⟩) n c1) := fun o o' => (((unhide H5).p.alloc o).alloc o').c 0 (by simp)
        have pa1 : ∀ o o', ((w5.alloc o).alloc o').cell? ⟨G, 1, none⟩ = some (.slice (some ⟨g2, 0, none⟩) n c2) := fun o o' => (((unhide H5).p.alloc o).alloc o').c 1 (by simp)
        have pb0 : ∀ o o', ((w5.alloc o).alloc o').frozen? ⟨G, 0, none⟩ = false := fun o o' => (((unhide H5).p.alloc o).alloc o').f 0 (by simp)
        have pb1 : ∀ o o', ((w5.alloc o).alloc o').frozen? ⟨G, 1, none⟩ = false := fun o o' => (((unhide H5).p.alloc o).alloc o').f 1 (by simp)
        have HH : Hid (Ce w C R a len cap bs W T5 ((((w5.alloc (Obj.cells #[.int .i64 4] 3)).alloc (Obj.cells #[.int .i64 5] 3)).setCell ⟨G, 0, none⟩ (.slice (some ⟨w5.heap.size, 0, none⟩) 1 1)).setCell ⟨G, 1, none⟩ (.slice (some ⟨w5.heap.size + 1, 0, none⟩) 1 1)) (.slice (some ⟨w5.heap.size, 0, none⟩) 1 1) (.slice (some ⟨w5.heap.size + 1, 0, none⟩) 1 1) [4] [5]) := hide (by have h := unhide H7; rw [unhide HS1, unhide HV2, unhide HV1] at h; exact h)
        obtain ⟨V9, hV9⟩ : ∃ V, V = ((((w5.setCell ⟨G, 0, none⟩ (.slice (some ⟨w5.heap.size, 0, none⟩) 1 1)).setCell ⟨G, 1, none⟩ (.slice (some ⟨w5.heap.size + 1, 0, none⟩) 1 1)).alloc (Obj.cells #[.int .i64 4] 3)).alloc (Obj.cells #[.int .i64 5] 3)) := ⟨_, rfl⟩
        have eV : ((((w5.alloc (Obj.cells #[.int .i64 4] 3)).alloc (Obj.cells #[.int .i64 5] 3)).setCell ⟨G, 0, none⟩ (.slice (some ⟨w5.heap.size, 0, none⟩) 1 1)).setCell ⟨G, 1, none⟩ (.slice (some ⟨w5.heap.size + 1, 0, none⟩) 1 1)) = V9 := by
          rw [hV9, World.setCell_alloc_past _ _ _ _ (by first | omega | (simp; omega) | (simp [World.setCell]; omega)), World.setCell_alloc_past _ _ _ _ (by first | omega | (simp; omega) | (simp [World.setCell]; omega)), World.setCell_alloc_past _ _ _ _ (by first | omega | (simp; omega) | (simp [World.setCell]; omega)), World.setCell_alloc_past _ _ _ _ (by first | omega | (simp; omega) | (simp [World.setCell]; omega))]
        have P9 : Blk V9 G [.slice (some ⟨w5.heap.size, 0, none⟩) 1 1, .slice (some ⟨w5.heap.size + 1, 0, none⟩) 1 1] := by rw [← eV]; simpa using (((((unhide H5).p.alloc (Obj.cells #[.int .i64 4] 3)).alloc (Obj.cells #[.int .i64 5] 3)).set 0 (by simp) (.slice (some ⟨w5.heap.size, 0, none⟩) 1 1)).set 1 (by simp) (.slice (some ⟨w5.heap.size + 1, 0, none⟩) 1 1))
        rw [eV] at HH
        have HV9 := hide hV9
        clear H7 HS1 HV1 HV2 hV9 eV
        have R9 := (unhide HH).r
        have x0 : V9.cell? ⟨R, 0, none⟩ = some (.slice none 0 0) := R9.c 0 (by simp)
        have x1 : V9.cell? ⟨R, 1, none⟩ = some (.slice none 0 0) := R9.c 1 (by simp)
        have x2 : V9.frozen? ⟨R, 0, none⟩ = false := R9.f 0 (by simp)
        have x3 : V9.frozen? ⟨R, 1, none⟩ = false := R9.f 1 (by simp)
        have x4 : V9.cell? ⟨G, 0, none⟩ = some (.slice (some ⟨w5.heap.size, 0, none⟩) 1 1) := P9.c 0 (by simp)
        have x5 : V9.cell? ⟨G, 1, none⟩ = some (.slice (some ⟨w5.heap.size + 1, 0, none⟩) 1 1) := P9.c 1 (by simp)
        clear P9 R9
        go_upto_region 18 with fail
        rw [← unhide HV9]
        clear HV9
        go_wp2_with fail
        exact bodyPost_ret (results_cell (vs := [.slice (some ⟨w5.heap.size, 0, none⟩) 1 1, .slice (some ⟨w5.heap.size + 1, 0, none⟩) 1 1]) rfl Try.isAgg26 Try.sizeOf26 rfl ((unhide HH).told (unhide HE)).1) rfl ((unhide HH).told (unhide HE)).2
      · skip
        have t0 : ((c : Int) == 0) = false := by simp; omega
        have t1 : ((c : Int) == 1) = false := by simp; omega
        have t2 : ((c : Int) == 2) = false := by simp; omega
        have t3 : ((c : Int) == 3) = false := by simp; omega
        have t4 : ((c : Int) == 4) = false := by simp; omega
        have q0 : ¬ (c : Int) = 0 := by omega
        have q1 : ¬ (c : Int) = 1 := by omega
        have q2 : ¬ (c : Int) = 2 := by omega
        have q3 : ¬ (c : Int) = 3 := by omega
        have q4 : ¬ (c : Int) = 4 := by omega
        have s0 : ¬ c = 0 := by omega
        have s1 : ¬ c = 1 := by omega
        have s2 : ¬ c = 2 := by omega
        have s3 : ¬ c = 3 := by omega
        have s4 : ¬ c = 4 := by omega
        have pe0 : w5.cell? ⟨G, 0, none⟩ = some (.slice (some ⟨g1, 0, none⟩) n c1) := (unhide H5).p.c 0 (by simp)
        have pf0 : w5.frozen? ⟨G, 0, none⟩ = false := (unhide H5).p.f 0 (by simp)
        have pe1 : w5.cell? ⟨G, 1, none⟩ = some (.slice (some ⟨g2, 0, none⟩) n c2) := (unhide H5).p.c 1 (by simp)
        have pf1 : w5.frozen? ⟨G, 1, none⟩ = false := (unhide H5).p.f 1 (by simp)
        have re0 : w5.cell? ⟨R, 0, none⟩ = some (.slice none 0 0) := (unhide H5).r.c 0 (by simp)
        have rf0 : w5.frozen? ⟨R, 0, none⟩ = false := (unhide H5).r.f 0 (by simp)
        have re1 : w5.cell? ⟨R, 1, none⟩ = some (.slice none 0 0) := (unhide H5).r.c 1 (by simp)
        have rf1 : w5.frozen? ⟨R, 1, none⟩ = false := (unhide H5).r.f 1 (by simp)
        have HE : Hid (cuG (byS bs len) S = ((xs, ys), T5)) := hide (by rw [unhide HCU, cuE_5 h5])
        have H7 := hide (unhide H5).toCe
        go_wp2_with fail
        exact bodyPost_ret (results_cell (vs := [.slice (some ⟨g1, 0, none⟩) n c1, .slice (some ⟨g2, 0, none⟩) n c2]) rfl Try.isAgg26 Try.sizeOf26 rfl ((unhide H7).told (unhide HE)).1) rfl ((unhide H7).told (unhide HE)).2

end Go.Proofs.Ytikhfacgoglcfaa
