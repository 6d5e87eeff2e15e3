/-
  What the drawing of a law's gains and limits holds on to while it tells them: the results' blocks may be written at any time. No condition.
-/
import Derived.Test.YtbaocifpifbldadGaDraw
import Derived.Test.YtbaocifpifbldadBlks
namespace Go.Proofs.Ytbaocifpifbldad
open Go.RowKit

theorem Gd.set_low {w : World} {C G : Nat} {a : Option Addr} {len cap : Nat} {W : World} {v1 v2 : Value} {xs ys : List Int} (h : Gd w C G a len cap W v1 v2 xs ys) (R o : Nat) (v : Value) (h0 : w.heap.size ≤ R) (h1 : R < C) : Gd w C G a len cap (W.setCell ⟨R, o, none⟩ v) v1 v2 xs ys := by
  have cb := h.cb
  have gr : W.grownBy (W.setCell ⟨R, o, none⟩ v) (some R) := grown_set (grown_refl W (some R)) o v
  have hd := h.d
  refine ⟨⟨hd.cur.far gr (fun e => by have := Option.some.inj e; omega), hd.byt.far gr (fun b off e eb => by have := h.inn b off e; have := Option.some.inj eb; omega), hd.bel.grown gr hd.bel.size (fun k hk => by cases hk; exact h0), hd.ne, hd.ge, by simpa [World.setCell] using hd.lt⟩, h.inn, cb, h.p.other (by simp; omega) _, ?_, h.b1, ?_⟩
  · exact h.o1.set_other _ (fun e => by have := (h.o1.lies R e).1; omega)
  · exact h.o2.set_other _ (fun e => by have := (h.o2.lies R e).1; omega)

structure Gq (w : World) (C G L : Nat) (a : Option Addr) (len cap : Nat) (v1 v2 : Value) (xs ys : List Int) (lo hi st : Int) (W : World) : Prop where
  g : Gd w C G a len cap W v1 v2 xs ys
  l : Blk W L [.int .i64 lo, .int .i64 hi, .int .i64 st]
  hgl : G < L
  hc : w.heap.size + 2 ≤ C
theorem Gq.below {w : World} {C G L : Nat} {a : Option Addr} {len cap : Nat} {v1 v2 : Value} {xs ys : List Int} {lo hi st : Int} {W W' : World} (h : Gq w C G L a len cap v1 v2 xs ys lo hi st W) (b : Below W.heap.size W W') : Gq w C G L a len cap v1 v2 xs ys lo hi st W' :=
  ⟨h.g.below b, h.l.below b, h.hgl, h.hc⟩
theorem Gq.call {w : World} {C G L : Nat} {a : Option Addr} {len cap : Nat} {v1 v2 : Value} {xs ys : List Int} {lo hi st : Int} {W W' : World} (h : Gq w C G L a len cap v1 v2 xs ys lo hi st W) (k : W.grownBy W' (some C)) (d : Dr w C a len cap W') : Gq w C G L a len cap v1 v2 xs ys lo hi st W' := by
  have h1 := h.g.cb
  have h2 := h.hgl
  exact ⟨h.g.call k d, h.l.apart k (fun e => by have := Option.some.inj e; omega), h.hgl, h.hc⟩
theorem Gq.set_low {w : World} {C G L : Nat} {a : Option Addr} {len cap : Nat} {v1 v2 : Value} {xs ys : List Int} {lo hi st : Int} {W : World} (h : Gq w C G L a len cap v1 v2 xs ys lo hi st W) (R o : Nat) (v : Value) (h0 : w.heap.size ≤ R) (h1 : R ≤ w.heap.size + 1) : Gq w C G L a len cap v1 v2 xs ys lo hi st (W.setCell ⟨R, o, none⟩ v) := by
  have c1 := h.g.cb
  have c2 := h.hgl
  have c3 := h.hc
  exact ⟨h.g.set_low R o v h0 (by omega), h.l.other (by simp; omega) _, h.hgl, h.hc⟩
theorem gq_dr (w : World) (C G L : Nat) (a : Option Addr) (len cap : Nat) (v1 v2 : Value) (xs ys : List Int) (lo hi st : Int) : ∀ W, Gq w C G L a len cap v1 v2 xs ys lo hi st W → Gq w C G L a len cap v1 v2 xs ys lo hi st W.drew := fun _ h => h.below (bel0d 1)
theorem gq_p0 (w : World) (C G L : Nat) (a : Option Addr) (len cap : Nat) (v1 v2 : Value) (xs ys : List Int) (lo hi st : Int) : ∀ (W : World) (u0 u1 : Value), Gq w C G L a len cap v1 v2 xs ys lo hi st W → Gq w C G L a len cap v1 v2 xs ys lo hi st ((W.setCell ⟨w.heap.size, 0, none⟩ u0).setCell ⟨w.heap.size, 1, none⟩ u1) := fun _ _ _ h => (h.set_low _ 0 _ (Nat.le_refl _) (by omega)).set_low _ 1 _ (Nat.le_refl _) (by omega)
theorem gq_p1 (w : World) (C G L : Nat) (a : Option Addr) (len cap : Nat) (v1 v2 : Value) (xs ys : List Int) (lo hi st : Int) : ∀ (W : World) (u0 u1 u2 : Value), Gq w C G L a len cap v1 v2 xs ys lo hi st W → Gq w C G L a len cap v1 v2 xs ys lo hi st (((W.setCell ⟨w.heap.size + 1, 0, none⟩ u0).setCell ⟨w.heap.size + 1, 1, none⟩ u1).setCell ⟨w.heap.size + 1, 2, none⟩ u2) := fun _ _ _ _ h => ((h.set_low _ 0 _ (by omega) (Nat.le_refl _)).set_low _ 1 _ (by omega) (Nat.le_refl _)).set_low _ 2 _ (by omega) (Nat.le_refl _)
/-- Behind the call: the cells that are held on to. -/
theorem gq_call {w : World} {C G L : Nat} {a : Option Addr} {len cap : Nat} {v1 v2 : Value} {xs ys : List Int} {lo hi st : Int} {W W' : World}
    (h : W.cell? ⟨G, 0, none⟩ = some v1 ∧ W.cell? ⟨G, 1, none⟩ = some v2 ∧ W.cell? ⟨L, 0, none⟩ = some (.int .i64 lo) ∧ W.cell? ⟨L, 1, none⟩ = some (.int .i64 hi) ∧ W.cell? ⟨L, 2, none⟩ = some (.int .i64 st) ∧ Gq w C G L a len cap v1 v2 xs ys lo hi st W) (k : W.grownBy W' (some C)) (d : Dr w C a len cap W') :
    W'.cell? ⟨G, 0, none⟩ = some v1 ∧ W'.cell? ⟨G, 1, none⟩ = some v2 ∧ W'.cell? ⟨L, 0, none⟩ = some (.int .i64 lo) ∧ W'.cell? ⟨L, 1, none⟩ = some (.int .i64 hi) ∧ W'.cell? ⟨L, 2, none⟩ = some (.int .i64 st) ∧ Gq w C G L a len cap v1 v2 xs ys lo hi st W' := by
  have q := h.2.2.2.2.2.call k d
  exact ⟨q.g.p.c 0 (by simp), q.g.p.c 1 (by simp), q.l.c 0 (by simp), q.l.c 1 (by simp), q.l.c 2 (by simp), q⟩
theorem gq_of {w : World} {C G L : Nat} {a : Option Addr} {len cap : Nat} {v1 v2 : Value} {xs ys : List Int} {lo hi st : Int} {W : World} {A B D E F : Prop} (h : A ∧ B ∧ D ∧ E ∧ F ∧ Gq w C G L a len cap v1 v2 xs ys lo hi st W) : Gq w C G L a len cap v1 v2 xs ys lo hi st W := h.2.2.2.2.2
theorem res_same {W W' : World} {C R : Nat} (k : W.grownBy W' (some C)) (h1 : R < C) (h2 : C < W.heap.size) : (∀ o, W'.cell? ⟨R, o, none⟩ = W.cell? ⟨R, o, none⟩) ∧ (∀ o, W'.frozen? ⟨R, o, none⟩ = W.frozen? ⟨R, o, none⟩) := by
  have hb := k.block R (by omega) (fun e => by have := Option.some.inj e; omega)
  exact ⟨fun o => by simp only [World.cell?, hb], fun o => by simp only [World.frozen?, hb]⟩

end Go.Proofs.Ytbaocifpifbldad
