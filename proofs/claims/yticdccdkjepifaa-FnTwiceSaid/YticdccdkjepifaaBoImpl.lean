/-
  What the program's Both16 answers: what is taken of two networks that are heard in turn, at every two lists of frames. Nothing that was there is written.
-/
import Derived.Test.YticdccdkjepifaaMBoS
import Derived.Test.YticdccdkjepifaaBbHear
import Derived.Test.YticdccdkjepifaaBuAcI
import Derived.Test.YticdccdkjepifaaBuGtI
import Derived.Test.YticdccdkjepifaaRegInv
namespace Go.Proofs.Yticdccdkjepifaa
open Go Go.RowKit

/-- The state, and the frames that were heard. -/
structure BoH (w wr : World) (rl rk n : Int) (v : Value) (ws : List Wx) (t : List Wc) (gh : Nat) (zs : List Sl) : Prop where
  s : BoS w wr rl rk n v ws t
  h : RowE 1 slC wr (some ⟨gh, 0, none⟩) zs.length zs
  a : v.ownBlock ≠ some gh
  l : w.heap.size + 2 ≤ gh ∧ gh < wr.heap.size
theorem BoH.below {w wr w' : World} {rl rk n : Int} {v : Value} {ws : List Wx} {t : List Wc} {gh : Nat} {zs : List Sl} (h : BoH w wr rl rk n v ws t gh zs) (k : Below wr.heap.size wr w') : BoH w w' rl rk n v ws t gh zs :=
  ⟨h.s.below k, h.h.below k, h.a, h.l.1, Nat.lt_of_lt_of_le h.l.2 k.size⟩
theorem BoH.setR {w wr : World} {rl rk n : Int} {v : Value} {ws : List Wx} {t : List Wc} {gh : Nat} {zs : List Sl} (h : BoH w wr rl rk n v ws t gh zs) (m : Int) : BoH w (((wr.setCell ⟨w.heap.size, 0, none⟩ (.int .i64 rl)).setCell ⟨w.heap.size, 1, none⟩ (.int .i64 m)).setCell ⟨w.heap.size, 2, none⟩ (.int .i64 rk)) rl rk m v ws t gh zs := by
  have hl := h.l
  have hne : w.heap.size ≠ gh := by omega
  exact ⟨h.s.setR m, ((h.h.setCell (p := ⟨w.heap.size, 0, none⟩) hne _).setCell (p := ⟨w.heap.size, 1, none⟩) hne _).setCell (p := ⟨w.heap.size, 2, none⟩) hne _, h.a, hl.1, by simpa [World.setCell] using hl.2⟩
theorem BoH.push {w wr w9 : World} {rl rk n : Int} {v : Value} {ws : List Wx} {t : List Wc} {g m c gh : Nat} {zs : List Sl} {x : Wx} (h : BoH w wr rl rk n v ws t gh zs) (o : OwnE 3 wxC w9 (w.heap.size + 2) 50 (.slice (some ⟨g, 0, none⟩) m c) (ws ++ [x])) (gr : wr.grownBy w9 v.ownBlock) (hg : v.ownBlock = some g ∨ wr.heap.size ≤ g)
    (hd : OwnE 1 byC wr (w.heap.size + 2) 5 (slV x.d) x.d.zs) (hv : ∀ q, (slV x.d).ownBlock = some q → v.ownBlock ≠ some q) (hp : ∀ i, i < ws.length → ∀ q, (slV (elAt ws i).d).ownBlock = some q → (slV x.d).ownBlock ≠ some q) : BoH w w9 rl rk n (.slice (some ⟨g, 0, none⟩) m c) (ws ++ [x]) (t ++ [wxW x]) gh zs :=
  ⟨h.s.push o gr hg hd hv hp, h.h.far gr (fun e => h.a e.symm), fun e => by
    have e : g = gh := Option.some.inj e
    have := h.l.2
    rcases hg with q | q
    · exact h.a (by rw [q, e])
    · omega, h.l.1, Nat.lt_of_lt_of_le h.l.2 gr.size⟩
structure BwR (w : World) (rl rk n A m M : Int) (Wv : Value) (nn : Nat) (ws : List Wx) (T : List Wc) (x : Wx) (X X2 gh : Nat) (hs : List Sl) (t0 t1 t2 t3 t4 t5 t6 t7 t8 t9 t10 : Bool) (v0 v1 v2 v3 v4 v5 v6 v7 v8 v9 : Value) (W : World) : Prop where
  s : BoH w W rl rk (bif t10 then A else n) (bif t3 then v3 else Wv) (bif t3 then ws ++ [x] else ws) (bif t3 then T ++ [wxW x] else T) gh hs
  kW : Blk W X (wxV x)
  kN : Blk W X2 [.int .i64 rl, .int .i64 A, .int .i64 rk]
  oD : t3 = false → OwnE 1 byC W (w.heap.size + 2) 5 (slV x.d) x.d.zs
  e0 : t0 = true → v0 = Wv
  e1 : t1 = true → v1 = .agg (wxV x).toArray
  e2 : t2 = true → t3 = false → ∃ q, v2 = .slice (some ⟨q, 0, none⟩) 1 1 ∧ Blk W q (wxV x) ∧ w.heap.size + 2 ≤ q
  e3 : t3 = true → ∃ g9 c9, v3 = .slice (some ⟨g9, 0, none⟩) (nn + 1) c9
  e4 : t4 = true → v4 = .int .i64 m
  e5 : t5 = true → v5 = .int .i64 M
  e6 : t6 = true → v6 = .int .i64 (m + M)
  e7 : t7 = true → v7 = .agg #[.int .i64 rl, .int .i64 A, .int .i64 rk]
  n3 : t3 = true → t2 = true
  e8 : t8 = true → v8 = v3
  n8 : t8 = true → t3 = true
  e9 : t9 = true → v9 = .int .i64 (m + M)
  o8 : t8 = false → v8 = Wv
  o9 : t9 = false → v9 = .int .i64 m
  n30 : t3 = true → t0 = true
  n6 : t6 = true → t4 = true
  n9 : t9 = true → t6 = true
theorem BwR.below {w : World} {rl rk n A m M : Int} {Wv : Value} {nn : Nat} {ws : List Wx} {T : List Wc} {x : Wx} {X X2 gh : Nat} {hs : List Sl} {t0 t1 t2 t3 t4 t5 t6 t7 t8 t9 t10 : Bool} {v0 v1 v2 v3 v4 v5 v6 v7 v8 v9 : Value} {W W' : World} (K : BwR w rl rk n A m M Wv nn ws T x X X2 gh hs t0 t1 t2 t3 t4 t5 t6 t7 t8 t9 t10 v0 v1 v2 v3 v4 v5 v6 v7 v8 v9 W) (k : Below W.heap.size W W') : BwR w rl rk n A m M Wv nn ws T x X X2 gh hs t0 t1 t2 t3 t4 t5 t6 t7 t8 t9 t10 v0 v1 v2 v3 v4 v5 v6 v7 v8 v9 W' :=
  ⟨K.s.below k, K.kW.below k, K.kN.below k, fun h => (K.oD h).below k, K.e0, K.e1, fun h1 h2 => by obtain ⟨q, a1, a2, a3⟩ := K.e2 h1 h2; exact ⟨q, a1, a2.below k, a3⟩, K.e3, K.e4, K.e5, K.e6, K.e7, K.n3, K.e8, K.n8, K.e9, K.o8, K.o9, K.n30, K.n6, K.n9⟩
def BwRJ (w : World) (rl rk n A m M : Int) (Wv : Value) (nn : Nat) (ws : List Wx) (T : List Wc) (x : Wx) (X X2 gh : Nat) (hs : List Sl) (A0 : Act) (l : Nat → Bool) (a : Act) (V : World) : Prop := ∃ (v0 v1 v2 v3 v4 v5 v6 v7 v8 v9 : Value), a = ((((((((((A0.put (some 55) v0).put (some 56) v1).put (some 57) v2).put (some 58) v3).put (some 59) v4).put (some 60) v5).put (some 61) v6).put (some 62) v7).put (some 9) v8).put (some 10) v9) ∧ BwR w rl rk n A m M Wv nn ws T x X X2 gh hs (l 0) (l 1) (l 2) (l 3) (l 4) (l 5) (l 6) (l 7) (l 8) (l 9) (l 10) v0 v1 v2 v3 v4 v5 v6 v7 v8 v9 V
theorem BwRJ.mk {w : World} {rl rk n A m M : Int} {Wv : Value} {nn : Nat} {ws : List Wx} {T : List Wc} {x : Wx} {X X2 gh : Nat} {hs : List Sl} {A0 : Act} {l : Nat → Bool} {a : Act} {V : World} {v0 v1 v2 v3 v4 v5 v6 v7 v8 v9 : Value} (K : BwR w rl rk n A m M Wv nn ws T x X X2 gh hs (l 0) (l 1) (l 2) (l 3) (l 4) (l 5) (l 6) (l 7) (l 8) (l 9) (l 10) v0 v1 v2 v3 v4 v5 v6 v7 v8 v9 V) (h : a = ((((((((((A0.put (some 55) v0).put (some 56) v1).put (some 57) v2).put (some 58) v3).put (some 59) v4).put (some 60) v5).put (some 61) v6).put (some 62) v7).put (some 9) v8).put (some 10) v9)) : BwRJ w rl rk n A m M Wv nn ws T x X X2 gh hs A0 l a V := ⟨v0, v1, v2, v3, v4, v5, v6, v7, v8, v9, h, K⟩
theorem drop_el {α : Type} [Inhabited α] {X : List α} {i : Nat} (h : i < X.length) : X.drop i = elAt X i :: X.drop (i + 1) := by
  rw [List.drop_eq_getElem_cons h]
  have : elAt X i = X[i] := by simp [elAt, h]
  rw [this]
theorem RowE.sl1 {w : World} {g len : Nat} {zs : List Sl} (h : RowE 1 slC w (some ⟨g, 0, none⟩) len zs) {k : Nat} (hk : k < len) : w.cell? ⟨g, k, none⟩ = some (.slice (elAt zs k).a (elAt zs k).n (elAt zs k).c) := by
  obtain ⟨b, off, e, hc⟩ := h.at_ k hk
  simp only [Option.some.injEq, Addr.mk.injEq, and_true] at e
  obtain ⟨rfl, rfl⟩ := e
  have := hc 0 (by omega)
  simpa [slC, slV] using this

set_option maxRecDepth 20000 in
set_option maxHeartbeats 4000000 in
theorem implBoth16_many1 (rl n rk : Int) (xa ya : Option Addr) (xl xc yl yc : Nat) (xs ys : List Sl) (w : World) (hx : RowE 1 slC w xa xl xs) (hy : RowE 1 slC w ya yl ys) (hxi : ∀ s ∈ xs, SlIn w s) (hyi : ∀ s ∈ ys, SlIn w s) (h : 200 < xl) :
    Calls Try.prog 15 #[.agg #[.int .i64 rl, .int .i64 n, .int .i64 rk], .slice xa xl xc, .slice ya yl yc] w fun e w' => ∃ g c, e = .returned (.tuple #[.slice (some ⟨g, 0, none⟩) (boR rl n rk (xs.map (·.zs)) (ys.map (·.zs))).t.length c, .int .i64 (boR rl n rk (xs.map (·.zs)) (ys.map (·.zs))).m, .agg #[.int .i64 rl, .int .i64 (boR rl n rk (xs.map (·.zs)) (ys.map (·.zs))).n, .int .i64 rk]]) ∧ ∃ ws, OwnWd w' w.heap.size (.slice (some ⟨g, 0, none⟩) (boR rl n rk (xs.map (·.zs)) (ys.map (·.zs))).t.length c) ws ∧ ws.map wxW = (boR rl n rk (xs.map (·.zs)) (ys.map (·.zs))).t ∧ Below w.heap.size w w' := by
  have hz1 := hx.len_eq
  have hz2 := hy.len_eq
  have hs1 := hx.small
  have hs2 := hy.small
  have HX := hide hx
  have HY := hide hy
  have HXI := hide hxi
  have HYI := hide hyi
  clear hx hy hxi hyi
  subst hz1
  subst hz2
  have HR : Hid (boR rl n rk (xs.map (·.zs)) (ys.map (·.zs)) = ⟨n, 0, []⟩) := hide (by unfold boR; rw [if_neg (by simp; omega)])
  rw [unhide HR]
  obtain ⟨W, hW⟩ : ∃ W, W = ((w.alloc (Obj.cells #[.int .i64 rl, .int .i64 n, .int .i64 rk] 52)).alloc (Obj.cells #[.int .i64 0, .int .i64 0, .int .i64 0] 52)).alloc (Obj.cells #[] 50) := ⟨_, rfl⟩
  have HS : Hid (BoS w W rl rk n (.slice (some ⟨w.heap.size + 1 + 1, 0, none⟩) 0 0) [] []) := hide ⟨by rw [hW]; exact (ownWd_none (base := w.heap.size + 2) (w := (w.alloc (Obj.cells #[.int .i64 rl, .int .i64 n, .int .i64 rk] 52)).alloc (Obj.cells #[.int .i64 0, .int .i64 0, .int .i64 0] 52)) (by simp)) |> fun h => by simpa using h, rfl, by rw [hW]; exact (Blk.new (w := w) [.int .i64 rl, .int .i64 n, .int .i64 rk] 52).alloc _ |>.alloc _, by rw [hW]; exact (by have := (Blk.new (w := w.alloc (Obj.cells #[.int .i64 rl, .int .i64 n, .int .i64 rk] 52)) [.int .i64 0, .int .i64 0, .int .i64 0] 52).alloc (Obj.cells #[] 50); simpa using this), by rw [hW]; exact bel3 _ _ _⟩
  have HWW := hide hW
  clear hW
  have r0 : W.cell? ⟨w.heap.size, 0, none⟩ = some (.int .i64 rl) := (unhide HS).rcv.c 0 (by simp)
  have rf0 : W.frozen? ⟨w.heap.size, 0, none⟩ = false := (unhide HS).rcv.f 0 (by simp)
  have r1 : W.cell? ⟨w.heap.size, 1, none⟩ = some (.int .i64 n) := (unhide HS).rcv.c 1 (by simp)
  have rf1 : W.frozen? ⟨w.heap.size, 1, none⟩ = false := (unhide HS).rcv.f 1 (by simp)
  have r2 : W.cell? ⟨w.heap.size, 2, none⟩ = some (.int .i64 rk) := (unhide HS).rcv.c 2 (by simp)
  have rf2 : W.frozen? ⟨w.heap.size, 2, none⟩ = false := (unhide HS).rcv.f 2 (by simp)
  have z0 : W.cell? ⟨w.heap.size + 1, 0, none⟩ = some (.int .i64 0) := (unhide HS).res.c 0 (by simp)
  have zf0 : W.frozen? ⟨w.heap.size + 1, 0, none⟩ = false := (unhide HS).res.f 0 (by simp)
  have z1 : W.cell? ⟨w.heap.size + 1, 1, none⟩ = some (.int .i64 0) := (unhide HS).res.c 1 (by simp)
  have zf1 : W.frozen? ⟨w.heap.size + 1, 1, none⟩ = false := (unhide HS).res.f 1 (by simp)
  have z2 : W.cell? ⟨w.heap.size + 1, 2, none⟩ = some (.int .i64 0) := (unhide HS).res.c 2 (by simp)
  have zf2 : W.frozen? ⟨w.heap.size + 1, 2, none⟩ = false := (unhide HS).res.f 2 (by simp)
  go_enter Try.func15, Try.ntmps15
  have h1 : (200 : Int) < (xs.length : Int) := by omega
  go_upto_region 3 with fail
  rw [← unhide HWW]
  clear HWW
  go_region
  go_wp2_with fail
  refine bodyPost_ret (results_BBcell (vs := [.int .i64 rl, .int .i64 n, .int .i64 rk]) rfl Try.isAgg52 Try.sizeOf52 rfl (((((unhide HS).res.drewN 1).set 0 (by simp) _).set 1 (by simp) _).set 2 (by simp) _) rfl rfl) rfl ⟨w.heap.size + 1 + 1, 0, rfl, [], ?_, rfl, ?_⟩
  · exact (((((((unhide HS).own.below (bel0d 1)).mono (base' := w.heap.size + 2) (Nat.le_refl _)).set_low (S := w.heap.size + 1) (by omega) _).set_low (S := w.heap.size + 1) (by omega) _).set_low (S := w.heap.size + 1) (by omega) _).mono (by omega))
  · exact ((((unhide HS).bel.trans (bel0d' 1)).setCell (p := ⟨w.heap.size + 1, 0, none⟩) (by simp) _).setCell (p := ⟨w.heap.size + 1, 1, none⟩) (by simp) _).setCell (p := ⟨w.heap.size + 1, 2, none⟩) (by simp) _

set_option maxRecDepth 20000 in
set_option maxHeartbeats 4000000 in
theorem implBoth16_many2 (rl n rk : Int) (xa ya : Option Addr) (xl xc yl yc : Nat) (xs ys : List Sl) (w : World) (hx : RowE 1 slC w xa xl xs) (hy : RowE 1 slC w ya yl ys) (hxi : ∀ s ∈ xs, SlIn w s) (hyi : ∀ s ∈ ys, SlIn w s) (h0 : ¬ 200 < xl) (h : 200 < yl) :
    Calls Try.prog 15 #[.agg #[.int .i64 rl, .int .i64 n, .int .i64 rk], .slice xa xl xc, .slice ya yl yc] w fun e w' => ∃ g c, e = .returned (.tuple #[.slice (some ⟨g, 0, none⟩) (boR rl n rk (xs.map (·.zs)) (ys.map (·.zs))).t.length c, .int .i64 (boR rl n rk (xs.map (·.zs)) (ys.map (·.zs))).m, .agg #[.int .i64 rl, .int .i64 (boR rl n rk (xs.map (·.zs)) (ys.map (·.zs))).n, .int .i64 rk]]) ∧ ∃ ws, OwnWd w' w.heap.size (.slice (some ⟨g, 0, none⟩) (boR rl n rk (xs.map (·.zs)) (ys.map (·.zs))).t.length c) ws ∧ ws.map wxW = (boR rl n rk (xs.map (·.zs)) (ys.map (·.zs))).t ∧ Below w.heap.size w w' := by
  have hz1 := hx.len_eq
  have hz2 := hy.len_eq
  have hs1 := hx.small
  have hs2 := hy.small
  have HX := hide hx
  have HY := hide hy
  have HXI := hide hxi
  have HYI := hide hyi
  clear hx hy hxi hyi
  subst hz1
  subst hz2
  have HR : Hid (boR rl n rk (xs.map (·.zs)) (ys.map (·.zs)) = ⟨n, 0, []⟩) := hide (by unfold boR; rw [if_neg (by simp; omega)])
  rw [unhide HR]
  obtain ⟨W, hW⟩ : ∃ W, W = ((w.alloc (Obj.cells #[.int .i64 rl, .int .i64 n, .int .i64 rk] 52)).alloc (Obj.cells #[.int .i64 0, .int .i64 0, .int .i64 0] 52)).alloc (Obj.cells #[] 50) := ⟨_, rfl⟩
  have HS : Hid (BoS w W rl rk n (.slice (some ⟨w.heap.size + 1 + 1, 0, none⟩) 0 0) [] []) := hide ⟨by rw [hW]; exact (ownWd_none (base := w.heap.size + 2) (w := (w.alloc (Obj.cells #[.int .i64 rl, .int .i64 n, .int .i64 rk] 52)).alloc (Obj.cells #[.int .i64 0, .int .i64 0, .int .i64 0] 52)) (by simp)) |> fun h => by simpa using h, rfl, by rw [hW]; exact (Blk.new (w := w) [.int .i64 rl, .int .i64 n, .int .i64 rk] 52).alloc _ |>.alloc _, by rw [hW]; exact (by have := (Blk.new (w := w.alloc (Obj.cells #[.int .i64 rl, .int .i64 n, .int .i64 rk] 52)) [.int .i64 0, .int .i64 0, .int .i64 0] 52).alloc (Obj.cells #[] 50); simpa using this), by rw [hW]; exact bel3 _ _ _⟩
  have HWW := hide hW
  clear hW
  have r0 : W.cell? ⟨w.heap.size, 0, none⟩ = some (.int .i64 rl) := (unhide HS).rcv.c 0 (by simp)
  have rf0 : W.frozen? ⟨w.heap.size, 0, none⟩ = false := (unhide HS).rcv.f 0 (by simp)
  have r1 : W.cell? ⟨w.heap.size, 1, none⟩ = some (.int .i64 n) := (unhide HS).rcv.c 1 (by simp)
  have rf1 : W.frozen? ⟨w.heap.size, 1, none⟩ = false := (unhide HS).rcv.f 1 (by simp)
  have r2 : W.cell? ⟨w.heap.size, 2, none⟩ = some (.int .i64 rk) := (unhide HS).rcv.c 2 (by simp)
  have rf2 : W.frozen? ⟨w.heap.size, 2, none⟩ = false := (unhide HS).rcv.f 2 (by simp)
  have z0 : W.cell? ⟨w.heap.size + 1, 0, none⟩ = some (.int .i64 0) := (unhide HS).res.c 0 (by simp)
  have zf0 : W.frozen? ⟨w.heap.size + 1, 0, none⟩ = false := (unhide HS).res.f 0 (by simp)
  have z1 : W.cell? ⟨w.heap.size + 1, 1, none⟩ = some (.int .i64 0) := (unhide HS).res.c 1 (by simp)
  have zf1 : W.frozen? ⟨w.heap.size + 1, 1, none⟩ = false := (unhide HS).res.f 1 (by simp)
  have z2 : W.cell? ⟨w.heap.size + 1, 2, none⟩ = some (.int .i64 0) := (unhide HS).res.c 2 (by simp)
  have zf2 : W.frozen? ⟨w.heap.size + 1, 2, none⟩ = false := (unhide HS).res.f 2 (by simp)
  go_enter Try.func15, Try.ntmps15
  have h1 : (200 : Int) < (ys.length : Int) := by omega
  have h2 : ¬ (200 : Int) < (xs.length : Int) := by omega
  go_upto_region 3 with fail
  rw [← unhide HWW]
  clear HWW
  go_region
  go_wp2_with fail
  refine bodyPost_ret (results_BBcell (vs := [.int .i64 rl, .int .i64 n, .int .i64 rk]) rfl Try.isAgg52 Try.sizeOf52 rfl (((((unhide HS).res.drewN 1).set 0 (by simp) _).set 1 (by simp) _).set 2 (by simp) _) rfl rfl) rfl ⟨w.heap.size + 1 + 1, 0, rfl, [], ?_, rfl, ?_⟩
  · exact (((((((unhide HS).own.below (bel0d 1)).mono (base' := w.heap.size + 2) (Nat.le_refl _)).set_low (S := w.heap.size + 1) (by omega) _).set_low (S := w.heap.size + 1) (by omega) _).set_low (S := w.heap.size + 1) (by omega) _).mono (by omega))
  · exact ((((unhide HS).bel.trans (bel0d' 1)).setCell (p := ⟨w.heap.size + 1, 0, none⟩) (by simp) _).setCell (p := ⟨w.heap.size + 1, 1, none⟩) (by simp) _).setCell (p := ⟨w.heap.size + 1, 2, none⟩) (by simp) _

set_option maxRecDepth 20000 in
set_option maxHeartbeats 4000000 in
theorem implBoth16_few (rl n rk : Int) (xa ya : Option Addr) (xl xc yl yc : Nat) (xs ys : List Sl) (w : World) (hx : RowE 1 slC w xa xl xs) (hy : RowE 1 slC w ya yl ys) (hxi : ∀ s ∈ xs, SlIn w s) (hyi : ∀ s ∈ ys, SlIn w s) (h0 : ¬ 200 < xl) (h : ¬ 200 < yl) :
    Calls Try.prog 15 #[.agg #[.int .i64 rl, .int .i64 n, .int .i64 rk], .slice xa xl xc, .slice ya yl yc] w fun e w' => ∃ g c, e = .returned (.tuple #[.slice (some ⟨g, 0, none⟩) (boR rl n rk (xs.map (·.zs)) (ys.map (·.zs))).t.length c, .int .i64 (boR rl n rk (xs.map (·.zs)) (ys.map (·.zs))).m, .agg #[.int .i64 rl, .int .i64 (boR rl n rk (xs.map (·.zs)) (ys.map (·.zs))).n, .int .i64 rk]]) ∧ ∃ ws, OwnWd w' w.heap.size (.slice (some ⟨g, 0, none⟩) (boR rl n rk (xs.map (·.zs)) (ys.map (·.zs))).t.length c) ws ∧ ws.map wxW = (boR rl n rk (xs.map (·.zs)) (ys.map (·.zs))).t ∧ Below w.heap.size w w' := by
  have hz1 := hx.len_eq
  have hz2 := hy.len_eq
  have hs1 := hx.small
  have hs2 := hy.small
  have HX := hide hx
  have HY := hide hy
  have HXI := hide hxi
  have HYI := hide hyi
  clear hx hy hxi hyi
  subst hz1
  subst hz2
  have h1 : ¬ (200 : Int) < (xs.length : Int) := by omega
  have h2 : ¬ (200 : Int) < (ys.length : Int) := by omega
  have HLN : Hid ((inter xs ys).length ≤ 400) := hide (by rw [inter_len _ xs ys rfl]; omega)
  have HSI := hide (inter_mem (p := SlIn w) _ xs ys rfl (unhide HXI) (unhide HYI))
  obtain ⟨W, hW⟩ : ∃ W, W = ((w.alloc (Obj.cells #[.int .i64 rl, .int .i64 n, .int .i64 rk] 52)).alloc (Obj.cells #[.int .i64 0, .int .i64 0, .int .i64 0] 52)).alloc (Obj.cells #[] 50) := ⟨_, rfl⟩
  have HS : Hid (BoS w W rl rk n (.slice (some ⟨w.heap.size + 1 + 1, 0, none⟩) 0 0) [] []) := hide ⟨by rw [hW]; exact (ownWd_none (base := w.heap.size + 2) (w := (w.alloc (Obj.cells #[.int .i64 rl, .int .i64 n, .int .i64 rk] 52)).alloc (Obj.cells #[.int .i64 0, .int .i64 0, .int .i64 0] 52)) (by simp)) |> fun h => by simpa using h, rfl, by rw [hW]; exact (Blk.new (w := w) [.int .i64 rl, .int .i64 n, .int .i64 rk] 52).alloc _ |>.alloc _, by rw [hW]; exact (by have := (Blk.new (w := w.alloc (Obj.cells #[.int .i64 rl, .int .i64 n, .int .i64 rk] 52)) [.int .i64 0, .int .i64 0, .int .i64 0] 52).alloc (Obj.cells #[] 50); simpa using this), by rw [hW]; exact bel3 _ _ _⟩
  have HWW := hide hW
  clear hW
  go_enter Try.func15, Try.ntmps15
  go_wp2_with fail
  rw [← unhide HWW]
  clear HWW
  refine (network_is _ _ _ xs _ ((unhide HX).below (unhide HS).bel) (by omega)).mono ?_
  rintro e u1 ⟨rfl, C1, b1⟩
  have HC1 := hide C1
  have hlt1 := C1.lt
  have HB1 := hide b1
  clear C1 b1
  go_wp2_with fail
  refine (network_is _ _ _ ys _ ((unhide HY).below ((unhide HS).below (unhide HB1)).bel) (by omega)).mono ?_
  rintro e u2 ⟨rfl, C2, b2⟩
  have HC1 := hide ((unhide HC1).below b2)
  have HC2 := hide C2
  have HB2 := hide ((unhide HB1).trans (b2.mono (unhide HB1).size))
  clear C2 b2
  go_wp2_with fail
  refine (heard_is _ _ _ _ xs ys _ W.heap.size (by omega) (Nat.le_refl _) (by omega) (unhide HC1) (unhide HC2) (by omega)).mono ?_
  rintro e u3 ⟨gh, ch, rfl, oh, b3⟩
  have HS3 := hide ((unhide HS).below ((unhide HB2).trans b3))
  have H0 : Hid (BoH w u3 rl rk n (.slice (some ⟨w.heap.size + 1 + 1, 0, none⟩) 0 0) [] [] gh (inter xs ys)) := hide ⟨unhide HS3, oh.row, (fun e => by have e : w.heap.size + 1 + 1 = gh := Option.some.inj e; have h5 := (oh.lies gh rfl).1; have h6 := (unhide HS).own.out.lies _ rfl; omega), by have h5 := (oh.lies gh rfl).1; have h6 := (unhide HS).sz; omega, (oh.lies gh rfl).2⟩
  clear HS HS3 HC1 HC2 HB1 HB2 oh b3 hlt1
  go_wp2_with fail
  go_loopw [9, 10, 36] (fun s9 s10 s36 wr => ∃ (k : Nat) (st : Bst) (ws : List Wx) (g nn c : Nat), s9 = .slice (some ⟨g, 0, none⟩) nn c ∧ s10 = .int .i64 st.m ∧ s36 = .int .i64 (k : Int) ∧ k ≤ (inter xs ys).length ∧ Hid (ws.length = nn) ∧ Hid (BoH w wr rl rk st.n (.slice (some ⟨g, 0, none⟩) nn c) ws st.t gh (inter xs ys)) ∧ Hid (boS rl rk st ((inter xs ys).drop k) = boS rl rk ⟨n, 0, []⟩ (inter xs ys)) ∧ Hid ((0 ≤ st.m ∧ st.m ≤ 255 * ((k : Nat) : Int)) ∧ st.t.length ≤ k)) (fun _ _ s36 _ => (inter xs ys).length - (intOf s36).toNat)
  case atStart => exact ⟨0, ⟨n, 0, []⟩, [], w.heap.size + 1 + 1, 0, 0, rfl, rfl, rfl, by omega, hide rfl, H0, hide rfl, hide ⟨by simp, by simp⟩⟩
  case round =>
    clear H0
    obtain ⟨k, st, ws, g, nn, c, rfl, rfl, rfl, hk, HZ, HH, HF, HBD⟩ := hrel
    by_cases hlt : k < (inter xs ys).length
    · have mf := (unhide HH).h.sl1 hlt
      have SI := hide (((unhide HSI) _ (elAt_mem hlt)).below (unhide HH).s.bel)
      have k0 : (0 : Int) ≤ (k : Int) := by omega
      have k1 : (k : Int) < ((inter xs ys).length : Int) := by omega
      have HFF : Hid (boS rl rk (boStep rl rk st (elAt (inter xs ys) k).zs) ((inter xs ys).drop (k + 1)) = boS rl rk ⟨n, 0, []⟩ (inter xs ys)) := hide (by rw [← boS_cons, ← drop_el hlt]; exact unhide HF)
      have HSB := hide (boStep_bd (rl := rl) (rk := rk) (zs := (elAt (inter xs ys) k).zs) (unhide HBD).1 (unhide HBD).2)
      have hmm := (unhide HBD).1
      have hln := unhide HLN
      have hmm2 : st.m ≤ 1000000 := by omega
      go_wp2_with fail
      refine (implGet16_row _ _ _ (elAt (inter xs ys) k).zs _ (unhide SI).row (unhide SI).byt (unhide SI).cap).mono ?_
      rintro e w1 ⟨p, q, rfl, od, b1⟩
      have HFR := hide ((unhide HH).s.fresh (x := ⟨(gtL (elAt (inter xs ys) k).zs), (gtS (elAt (inter xs ys) k).zs), ⟨p, (gtD (elAt (inter xs ys) k).zs).length, q, (gtD (elAt (inter xs ys) k).zs)⟩⟩) od)
      have HOD := hide (od.mono (base' := w.heap.size + 2) (unhide HH).s.sz)
      have HH := hide ((unhide HH).below b1)
      have hsz1 := (unhide HH).s.sz
      have HVX : Hid ((Value.slice (some ⟨g, 0, none⟩) nn c).ownBlock ≠ some w1.heap.size) := hide (fun e => by have := ((unhide HH).s.own.out.lies _ e).2; omega)
      clear od b1
      obtain ⟨V, hV⟩ : ∃ V, V = w1.alloc (Obj.cells #[.int .i64 (gtL (elAt (inter xs ys) k).zs), .int .i64 (gtS (elAt (inter xs ys) k).zs), .slice p (gtD (elAt (inter xs ys) k).zs).length q] 50) := ⟨_, rfl⟩
      have bV : Below w1.heap.size w1 V := by rw [hV]; exact bel1 _
      have KW : Hid (Blk V w1.heap.size [.int .i64 (gtL (elAt (inter xs ys) k).zs), .int .i64 (gtS (elAt (inter xs ys) k).zs), .slice p (gtD (elAt (inter xs ys) k).zs).length q]) := hide (by rw [hV]; exact Blk.new _ _)
      have HH := hide ((unhide HH).below bV)
      have HOD := hide ((unhide HOD).below bV)
      obtain ⟨X, hX⟩ : ∃ X, w1.heap.size = X := ⟨_, rfl⟩
      rw [hX] at KW HVX
      have hXb : w.heap.size + 2 ≤ X := by omega
      have HXW := hide hX
      have HVV := hide hV
      clear bV hX hsz1
      by_cases hg : gtC (elAt (inter xs ys) k).zs = 0
      · rw [hg]
        have HG := hide hg
        clear hg
        have y0 : V.cell? ⟨w1.heap.size, 0, none⟩ = some (.int .i64 (gtL (elAt (inter xs ys) k).zs)) := by rw [unhide HXW]; exact (unhide KW).c 0 (by simp)
        have y1 : V.cell? ⟨w1.heap.size, 1, none⟩ = some (.int .i64 (gtS (elAt (inter xs ys) k).zs)) := by rw [unhide HXW]; exact (unhide KW).c 1 (by simp)
        have y2 : V.cell? ⟨w1.heap.size, 2, none⟩ = some (.slice p (gtD (elAt (inter xs ys) k).zs).length q) := by rw [unhide HXW]; exact (unhide KW).c 2 (by simp)
        have r0 : V.cell? ⟨w.heap.size, 0, none⟩ = some (.int .i64 rl) := (unhide HH).s.rcv.c 0 (by simp)
        have rf0 : V.frozen? ⟨w.heap.size, 0, none⟩ = false := (unhide HH).s.rcv.f 0 (by simp)
        have r1 : V.cell? ⟨w.heap.size, 1, none⟩ = some (.int .i64 st.n) := (unhide HH).s.rcv.c 1 (by simp)
        have rf1 : V.frozen? ⟨w.heap.size, 1, none⟩ = false := (unhide HH).s.rcv.f 1 (by simp)
        have r2 : V.cell? ⟨w.heap.size, 2, none⟩ = some (.int .i64 rk) := (unhide HH).s.rcv.c 2 (by simp)
        have rf2 : V.frozen? ⟨w.heap.size, 2, none⟩ = false := (unhide HH).s.rcv.f 2 (by simp)
        rw [hV] at y0 y1 y2 r0 r1 r2 rf0 rf1 rf2
        clear hV
        obtain ⟨A, hA⟩ : ∃ z, acN rl st.n rk (gtL (elAt (inter xs ys) k).zs) (gtS (elAt (inter xs ys) k).zs) (gtD (elAt (inter xs ys) k).zs).length = z := ⟨_, rfl⟩
        obtain ⟨M, hM⟩ : ∃ z, acM rl st.n rk (gtL (elAt (inter xs ys) k).zs) (gtS (elAt (inter xs ys) k).zs) (gtD (elAt (inter xs ys) k).zs).length = z := ⟨_, rfl⟩
        have HA := hide hA
        have HM := hide hM
        have hMb := acM_bd rl st.n rk (gtL (elAt (inter xs ys) k).zs) (gtS (elAt (inter xs ys) k).zs) (gtD (elAt (inter xs ys) k).zs).length
        rw [hM] at hMb
        have hgl := gtD_small (elAt (inter xs ys) k).zs
        clear hA hM
        go_wp2_with fail
        rw [← unhide HVV]
        rw [unhide HXW]
        clear y0 y1 y2 r0 r1 r2 rf0 rf1 rf2 HVV HXW
        cases hB : acB rl st.n rk (gtL (elAt (inter xs ys) k).zs) (gtS (elAt (inter xs ys) k).zs) (gtD (elAt (inter xs ys) k).zs).length with
        | false =>
          have HBB := hide hB
          clear hB
          refine (implAccept_is rl st.n rk _ _ p _ q V (by omega) (unhide HA) (unhide HM) (unhide HBB)).mono ?_
          rintro e w2 ⟨rfl, b2⟩
          have HH := hide ((unhide HH).below b2)
          have HN := hide (bo_no (unhide HG) (unhide HBB))
          have HH := hide ((unhide HH).below (bel1 (Obj.cells #[.int .i64 rl, .int .i64 A, .int .i64 rk] 52)))
          clear b2 KW HOD HFR
          go_wp2_with fail
          go_roundw
          case rel => exact ⟨k + 1, st, ws, g, nn, c, rfl, rfl, by go_num, by omega, HZ, HH, hide (by have h5 := unhide HFF; rw [unhide HN] at h5; exact h5), hide (by have h5 := unhide HSB; rw [unhide HN] at h5; simp at h5 ⊢; omega)⟩
          case measure => simp [intOf]; omega
        | true =>
          have HBB := hide hB
          clear hB
          refine (implAccept_is rl st.n rk _ _ p _ q V (by omega) (unhide HA) (unhide HM) (unhide HBB)).mono ?_
          rintro e w2 ⟨rfl, b2⟩
          have HH := hide ((unhide HH).below b2)
          have HN : Hid (boStep rl rk st (elAt (inter xs ys) k).zs = ⟨A, st.m + M, st.t ++ [⟨(gtL (elAt (inter xs ys) k).zs), (gtS (elAt (inter xs ys) k).zs), (gtD (elAt (inter xs ys) k).zs)⟩]⟩) := hide (by rw [bo_yes (unhide HG) (unhide HBB), unhide HA, unhide HM])
          have KW := hide ((unhide KW).below b2)
          have HOD := hide ((unhide HOD).below b2)
          have HV2X : Hid ((Value.slice (some ⟨g, 0, none⟩) nn c).ownBlock ≠ some w2.heap.size) := hide (fun e => by have := ((unhide HH).s.own.out.lies _ e).2; omega)
          have hsz2 := (unhide HH).s.sz
          clear b2
          obtain ⟨V2, hV2⟩ : ∃ V, V = w2.alloc (Obj.cells #[.int .i64 rl, .int .i64 A, .int .i64 rk] 52) := ⟨_, rfl⟩
          have b3 : Below w2.heap.size w2 V2 := by rw [hV2]; exact bel1 _
          have KN : Hid (Blk V2 w2.heap.size [.int .i64 rl, .int .i64 A, .int .i64 rk]) := hide (by rw [hV2]; exact Blk.new _ _)
          have HH := hide ((unhide HH).below b3)
          have KW := hide ((unhide KW).below b3)
          have HOD := hide ((unhide HOD).below b3)
          obtain ⟨X2, hX2⟩ : ∃ X, w2.heap.size = X := ⟨_, rfl⟩
          rw [hX2] at KN HV2X
          have hX2b : w.heap.size + 2 ≤ X2 := by omega
          have HV2 := hide hV2
          have HX2 := hide hX2
          clear hV2 hX2 b3
          have hvX := unhide HVX
          have hvX2 := unhide HV2X
          have hnl : nn ≤ 1000 := by have h5 := (unhide HBD).2; have h6 := congrArg List.length (unhide HH).s.con; have h7 := unhide HZ; have h8 := unhide HLN; simp at h6; omega
          go_upto_region 11 with fail
          rw [← unhide HV2, unhide HX2]
          clear HV2 HX2
          refine wp_region_flagsA (by kernel_rfl) (by kernel_rfl) (BwRJ w rl rk st.n A st.m M (.slice (some ⟨g, 0, none⟩) nn c) nn ws st.t (⟨(gtL (elAt (inter xs ys) k).zs), (gtS (elAt (inter xs ys) k).zs), ⟨p, (gtD (elAt (inter xs ys) k).zs).length, q, (gtD (elAt (inter xs ys) k).zs)⟩⟩ : Wx) X X2 gh (inter xs ys)) ?_ ?_ ?_
          · exact BwRJ.mk (v0 := u55) (v1 := u56) (v2 := u57) (v3 := u58) (v4 := u59) (v5 := u60) (v6 := u61) (v7 := u62) (v8 := .slice (some ⟨g, 0, none⟩) nn c) (v9 := .int .i64 st.m) ⟨(unhide HH).below (bel0d 1), (unhide KW).drewN 1, (unhide KN).drewN 1, fun _ => (unhide HOD).below (bel0d 1), (fun h => by cases h), (fun h => by cases h), (fun h => by cases h), (fun h => by cases h), (fun h => by cases h), (fun h => by cases h), (fun h => by cases h), (fun h => by cases h), (fun h => by cases h), (fun h => by cases h), (fun h => by cases h), (fun h => by cases h), (fun _ => rfl), (fun _ => rfl), (fun h => by cases h), (fun h => by cases h), (fun h => by cases h)⟩ (by kernel_rfl)
          rotate_left 1
          · rintro l a V i o ho hl hd ⟨v0, v1, v2, v3, v4, v5, v6, v7, v8, v9, rfl, K⟩
            have hi : i < 11 := (Array.getElem?_eq_some_iff.1 ho).1
            rcases (show i = 0 ∨ i = 1 ∨ i = 2 ∨ i = 3 ∨ i = 4 ∨ i = 5 ∨ i = 6 ∨ i = 7 ∨ i = 8 ∨ i = 9 ∨ i = 10 from by omega) with rfl | rfl | rfl | rfl | rfl | rfl | rfl | rfl | rfl | rfl | rfl
            · simp at ho
              subst ho
              have n3 : l 3 = false := by cases c3 : l 3; rfl; exact absurd (K.n30 c3) (by rw [hl]; simp)
              have n8 : l 8 = false := by cases c3 : l 8; rfl; exact absurd (K.n8 c3) (by rw [n3]; simp)
              have x8 := K.o8 n8
              subst x8
              have HK : Hid (BwR w rl rk st.n A st.m M (.slice (some ⟨g, 0, none⟩) nn c) nn ws st.t (⟨(gtL (elAt (inter xs ys) k).zs), (gtS (elAt (inter xs ys) k).zs), ⟨p, (gtD (elAt (inter xs ys) k).zs).length, q, (gtD (elAt (inter xs ys) k).zs)⟩⟩ : Wx) X X2 gh (inter xs ys) true (l 1) (l 2) (l 3) (l 4) (l 5) (l 6) (l 7) (l 8) (l 9) (l 10) (.slice (some ⟨g, 0, none⟩) nn c) v1 v2 v3 v4 v5 v6 v7 (.slice (some ⟨g, 0, none⟩) nn c) v9 V) := hide ⟨(K.s), (K.kW), (K.kN), (K.oD), (fun _ => rfl), (K.e1), (K.e2), (K.e3), (K.e4), (K.e5), (K.e6), (K.e7), (K.n3), (K.e8), (K.n8), (K.e9), (K.o8), (K.o9), (fun _ => rfl), (K.n6), (K.n9)⟩
              clear K hd hl n3 n8
              go_wp2_with fail
              exact ⟨rfl, BwRJ.mk (unhide HK) (by kernel_rfl)⟩
            · simp at ho
              subst ho
              have yy0 : V.cell? ⟨X, 0, none⟩ = some (.int .i64 (gtL (elAt (inter xs ys) k).zs)) := K.kW.c 0 (by simp [wxV])
              have yy1 : V.cell? ⟨X, 1, none⟩ = some (.int .i64 (gtS (elAt (inter xs ys) k).zs)) := K.kW.c 1 (by simp [wxV])
              have yy2 : V.cell? ⟨X, 2, none⟩ = some (.slice p (gtD (elAt (inter xs ys) k).zs).length q) := K.kW.c 2 (by simp [wxV])
              have HK : Hid (BwR w rl rk st.n A st.m M (.slice (some ⟨g, 0, none⟩) nn c) nn ws st.t (⟨(gtL (elAt (inter xs ys) k).zs), (gtS (elAt (inter xs ys) k).zs), ⟨p, (gtD (elAt (inter xs ys) k).zs).length, q, (gtD (elAt (inter xs ys) k).zs)⟩⟩ : Wx) X X2 gh (inter xs ys) (l 0) true (l 2) (l 3) (l 4) (l 5) (l 6) (l 7) (l 8) (l 9) (l 10) v0 (.agg #[.int .i64 (gtL (elAt (inter xs ys) k).zs), .int .i64 (gtS (elAt (inter xs ys) k).zs), .slice p (gtD (elAt (inter xs ys) k).zs).length q]) v2 v3 v4 v5 v6 v7 v8 v9 V) := hide ⟨(K.s), (K.kW), (K.kN), (K.oD), (K.e0), (fun _ => rfl), (K.e2), (K.e3), (K.e4), (K.e5), (K.e6), (K.e7), (K.n3), (K.e8), (K.n8), (K.e9), (K.o8), (K.o9), (K.n30), (K.n6), (K.n9)⟩
              clear K hd hl
              go_wp2_with fail
              exact ⟨rfl, BwRJ.mk (unhide HK) (by kernel_rfl)⟩
            · simp at ho
              subst ho
              have x1 : v1 = .agg #[.int .i64 (gtL (elAt (inter xs ys) k).zs), .int .i64 (gtS (elAt (inter xs ys) k).zs), .slice p (gtD (elAt (inter xs ys) k).zs).length q] := K.e1 (hd ⟨1, .data⟩ (by simp) rfl)
              have n3 : l 3 = false := by cases c3 : l 3; rfl; exact absurd (K.n3 c3) (by rw [hl]; simp)
              subst x1
              have K2 := K.below (bel1 (Obj.cells #[.int .i64 (gtL (elAt (inter xs ys) k).zs), .int .i64 (gtS (elAt (inter xs ys) k).zs), .slice p (gtD (elAt (inter xs ys) k).zs).length q] 50))
              have HK : Hid (BwR w rl rk st.n A st.m M (.slice (some ⟨g, 0, none⟩) nn c) nn ws st.t (⟨(gtL (elAt (inter xs ys) k).zs), (gtS (elAt (inter xs ys) k).zs), ⟨p, (gtD (elAt (inter xs ys) k).zs).length, q, (gtD (elAt (inter xs ys) k).zs)⟩⟩ : Wx) X X2 gh (inter xs ys) (l 0) (l 1) true (l 3) (l 4) (l 5) (l 6) (l 7) (l 8) (l 9) (l 10) v0 (.agg #[.int .i64 (gtL (elAt (inter xs ys) k).zs), .int .i64 (gtS (elAt (inter xs ys) k).zs), .slice p (gtD (elAt (inter xs ys) k).zs).length q]) (.slice (some ⟨V.heap.size, 0, none⟩) 1 1) v3 v4 v5 v6 v7 v8 v9 (V.alloc (Obj.cells #[.int .i64 (gtL (elAt (inter xs ys) k).zs), .int .i64 (gtS (elAt (inter xs ys) k).zs), .slice p (gtD (elAt (inter xs ys) k).zs).length q] 50))) := hide ⟨(K2.s), (K2.kW), (K2.kN), (K2.oD), (K2.e0), (K2.e1), (fun _ _ => ⟨_, rfl, Blk.new (wxV (⟨(gtL (elAt (inter xs ys) k).zs), (gtS (elAt (inter xs ys) k).zs), ⟨p, (gtD (elAt (inter xs ys) k).zs).length, q, (gtD (elAt (inter xs ys) k).zs)⟩⟩ : Wx)) 50, by have := K.s.s.sz; omega⟩), (K2.e3), (K2.e4), (K2.e5), (K2.e6), (K2.e7), (fun _ => rfl), (K2.e8), (K2.n8), (K2.e9), (K2.o8), (K2.o9), (K2.n30), (K2.n6), (K2.n9)⟩
              clear K K2 hd hl n3
              go_wp2_with fail
              exact ⟨rfl, BwRJ.mk (unhide HK) (by kernel_rfl)⟩
            · simp at ho
              subst ho
              have d0 : l 0 = true := hd ⟨0, .data⟩ (by simp) rfl
              have x0 := K.e0 d0
              have H0D := hide d0
              clear d0
              have d2 : l 2 = true := hd ⟨2, .data⟩ (by simp) rfl
              obtain ⟨qq, x2, kq, lq⟩ := K.e2 d2 hl
              have S0 := K.s
              rw [hl] at S0
              have OD := K.oD hl
              subst x0
              subst x2
              have n8 : l 8 = false := by cases c3 : l 8; rfl; exact absurd (K.n8 c3) (by rw [hl]; simp)
              have HK0 := hide K
              have HS0 : Hid (BoH w V rl rk (bif l 10 then A else st.n) (.slice (some ⟨g, 0, none⟩) nn c) ws st.t gh (inter xs ys)) := hide S0
              have HOD := hide OD
              have HQ := hide kq
              have H8 := hide n8
              have H2 := hide d2
              have hsz3 := S0.s.sz
              clear K hd hl S0 OD kq n8 d2
              go_wp2_with (at_builtin; refine wpList_app_wx rfl _ _ rfl ⟨(gtL (elAt (inter xs ys) k).zs), (gtS (elAt (inter xs ys) k).zs), ⟨p, (gtD (elAt (inter xs ys) k).zs).length, q, (gtD (elAt (inter xs ys) k).zs)⟩⟩ (unhide HS0).s.own.out (unhide HZ) (by kernel_rfl) (by kernel_rfl) (fun j hj => by match j, hj with | 0, _ => exact (unhide HQ).c 0 (by simp [wxV]) | 1, _ => exact (unhide HQ).c 1 (by simp [wxV]) | 2, _ => exact (unhide HQ).c 2 (by simp [wxV])) hsz3 hnl ?_; intro g9 c9 w9 o9 gr9 hg9; have K := unhide HK0; have HK : Hid (BwR w rl rk st.n A st.m M (.slice (some ⟨g, 0, none⟩) nn c) nn ws st.t (⟨(gtL (elAt (inter xs ys) k).zs), (gtS (elAt (inter xs ys) k).zs), ⟨p, (gtD (elAt (inter xs ys) k).zs).length, q, (gtD (elAt (inter xs ys) k).zs)⟩⟩ : Wx) X X2 gh (inter xs ys) (l 0) (l 1) (l 2) true (l 4) (l 5) (l 6) (l 7) (l 8) (l 9) (l 10) (.slice (some ⟨g, 0, none⟩) nn c) v1 (.slice (some ⟨qq, 0, none⟩) 1 1) (.slice (some ⟨g9, 0, none⟩) (nn + 1) c9) v4 v5 v6 v7 v8 v9 w9) := hide ⟨(((unhide HS0).push o9 gr9 hg9 (unhide HOD) (unhide HFR).1 (unhide HFR).2)), (K.kW.apart gr9 (fun e => hvX e.symm)), (K.kN.apart gr9 (fun e => hvX2 e.symm)), (fun h => by cases h), (K.e0), (K.e1), (fun _ h => by cases h), (fun _ => ⟨g9, c9, rfl⟩), (K.e4), (K.e5), (K.e6), (K.e7), (fun _ => (unhide H2)), (fun h => by cases (unhide H8).symm.trans h), (fun _ => rfl), (K.e9), (K.o8), (K.o9), (fun _ => (unhide H0D)), (K.n6), (K.n9)⟩; clear K o9 gr9 hg9)
              exact ⟨rfl, BwRJ.mk (unhide HK) (by kernel_rfl)⟩
            · simp at ho
              subst ho
              have n3 : l 6 = false := by cases c3 : l 6; rfl; exact absurd (K.n6 c3) (by rw [hl]; simp)
              have n8 : l 9 = false := by cases c3 : l 9; rfl; exact absurd (K.n9 c3) (by rw [n3]; simp)
              have x8 := K.o9 n8
              subst x8
              have HK : Hid (BwR w rl rk st.n A st.m M (.slice (some ⟨g, 0, none⟩) nn c) nn ws st.t (⟨(gtL (elAt (inter xs ys) k).zs), (gtS (elAt (inter xs ys) k).zs), ⟨p, (gtD (elAt (inter xs ys) k).zs).length, q, (gtD (elAt (inter xs ys) k).zs)⟩⟩ : Wx) X X2 gh (inter xs ys) (l 0) (l 1) (l 2) (l 3) true (l 5) (l 6) (l 7) (l 8) (l 9) (l 10) v0 v1 v2 v3 (.int .i64 st.m) v5 v6 v7 v8 (.int .i64 st.m) V) := hide ⟨(K.s), (K.kW), (K.kN), (K.oD), (K.e0), (K.e1), (K.e2), (K.e3), (fun _ => rfl), (K.e5), (K.e6), (K.e7), (K.n3), (K.e8), (K.n8), (K.e9), (K.o8), (K.o9), (K.n30), (fun _ => rfl), (K.n9)⟩
              clear K hd hl n3 n8
              go_wp2_with fail
              exact ⟨rfl, BwRJ.mk (unhide HK) (by kernel_rfl)⟩
            · simp at ho
              subst ho
              have HK : Hid (BwR w rl rk st.n A st.m M (.slice (some ⟨g, 0, none⟩) nn c) nn ws st.t (⟨(gtL (elAt (inter xs ys) k).zs), (gtS (elAt (inter xs ys) k).zs), ⟨p, (gtD (elAt (inter xs ys) k).zs).length, q, (gtD (elAt (inter xs ys) k).zs)⟩⟩ : Wx) X X2 gh (inter xs ys) (l 0) (l 1) (l 2) (l 3) (l 4) true (l 6) (l 7) (l 8) (l 9) (l 10) v0 v1 v2 v3 v4 (.int .i64 M) v6 v7 v8 v9 V) := hide ⟨(K.s), (K.kW), (K.kN), (K.oD), (K.e0), (K.e1), (K.e2), (K.e3), (K.e4), (fun _ => rfl), (K.e6), (K.e7), (K.n3), (K.e8), (K.n8), (K.e9), (K.o8), (K.o9), (K.n30), (K.n6), (K.n9)⟩
              clear K hd hl
              go_wp2_with fail
              exact ⟨rfl, BwRJ.mk (unhide HK) (by kernel_rfl)⟩
            · simp at ho
              subst ho
              have d4 : l 4 = true := hd ⟨4, .data⟩ (by simp) rfl
              have x4 := K.e4 d4
              have x5 := K.e5 (hd ⟨5, .data⟩ (by simp) rfl)
              subst x4
              subst x5
              have HK : Hid (BwR w rl rk st.n A st.m M (.slice (some ⟨g, 0, none⟩) nn c) nn ws st.t (⟨(gtL (elAt (inter xs ys) k).zs), (gtS (elAt (inter xs ys) k).zs), ⟨p, (gtD (elAt (inter xs ys) k).zs).length, q, (gtD (elAt (inter xs ys) k).zs)⟩⟩ : Wx) X X2 gh (inter xs ys) (l 0) (l 1) (l 2) (l 3) (l 4) (l 5) true (l 7) (l 8) (l 9) (l 10) v0 v1 v2 v3 (.int .i64 st.m) (.int .i64 M) (.int .i64 (st.m + M)) v7 v8 v9 V) := hide ⟨(K.s), (K.kW), (K.kN), (K.oD), (K.e0), (K.e1), (K.e2), (K.e3), (K.e4), (K.e5), (fun _ => rfl), (K.e7), (K.n3), (K.e8), (K.n8), (K.e9), (K.o8), (K.o9), (K.n30), (fun _ => d4), (fun _ => rfl)⟩
              clear K hd hl d4
              go_wp2_with fail
              exact ⟨rfl, BwRJ.mk (unhide HK) (by kernel_rfl)⟩
            · simp at ho
              subst ho
              have yy0 : V.cell? ⟨X2, 0, none⟩ = some (.int .i64 rl) := K.kN.c 0 (by simp)
              have yy1 : V.cell? ⟨X2, 1, none⟩ = some (.int .i64 A) := K.kN.c 1 (by simp)
              have yy2 : V.cell? ⟨X2, 2, none⟩ = some (.int .i64 rk) := K.kN.c 2 (by simp)
              have HK : Hid (BwR w rl rk st.n A st.m M (.slice (some ⟨g, 0, none⟩) nn c) nn ws st.t (⟨(gtL (elAt (inter xs ys) k).zs), (gtS (elAt (inter xs ys) k).zs), ⟨p, (gtD (elAt (inter xs ys) k).zs).length, q, (gtD (elAt (inter xs ys) k).zs)⟩⟩ : Wx) X X2 gh (inter xs ys) (l 0) (l 1) (l 2) (l 3) (l 4) (l 5) (l 6) true (l 8) (l 9) (l 10) v0 v1 v2 v3 v4 v5 v6 (.agg #[.int .i64 rl, .int .i64 A, .int .i64 rk]) v8 v9 V) := hide ⟨(K.s), (K.kW), (K.kN), (K.oD), (K.e0), (K.e1), (K.e2), (K.e3), (K.e4), (K.e5), (K.e6), (fun _ => rfl), (K.n3), (K.e8), (K.n8), (K.e9), (K.o8), (K.o9), (K.n30), (K.n6), (K.n9)⟩
              clear K hd hl
              go_wp2_with fail
              exact ⟨rfl, BwRJ.mk (unhide HK) (by kernel_rfl)⟩
            · simp at ho
              subst ho
              have d3 : l 3 = true := hd ⟨3, .data⟩ (by simp) rfl
              obtain ⟨g9, c9, x3⟩ := K.e3 d3
              subst x3
              have HK : Hid (BwR w rl rk st.n A st.m M (.slice (some ⟨g, 0, none⟩) nn c) nn ws st.t (⟨(gtL (elAt (inter xs ys) k).zs), (gtS (elAt (inter xs ys) k).zs), ⟨p, (gtD (elAt (inter xs ys) k).zs).length, q, (gtD (elAt (inter xs ys) k).zs)⟩⟩ : Wx) X X2 gh (inter xs ys) (l 0) (l 1) (l 2) (l 3) (l 4) (l 5) (l 6) (l 7) true (l 9) (l 10) v0 v1 v2 (.slice (some ⟨g9, 0, none⟩) (nn + 1) c9) v4 v5 v6 v7 (.slice (some ⟨g9, 0, none⟩) (nn + 1) c9) v9 V) := hide ⟨(K.s), (K.kW), (K.kN), (K.oD), (K.e0), (K.e1), (K.e2), (K.e3), (K.e4), (K.e5), (K.e6), (K.e7), (K.n3), (fun _ => rfl), (fun _ => d3), (K.e9), (fun h => by cases h), (K.o9), (K.n30), (K.n6), (K.n9)⟩
              clear K hd hl d3
              go_wp2_with fail
              exact ⟨rfl, BwRJ.mk (unhide HK) (by kernel_rfl)⟩
            · simp at ho
              subst ho
              have d6 : l 6 = true := hd ⟨6, .data⟩ (by simp) rfl
              have x6 := K.e6 d6
              subst x6
              have HK : Hid (BwR w rl rk st.n A st.m M (.slice (some ⟨g, 0, none⟩) nn c) nn ws st.t (⟨(gtL (elAt (inter xs ys) k).zs), (gtS (elAt (inter xs ys) k).zs), ⟨p, (gtD (elAt (inter xs ys) k).zs).length, q, (gtD (elAt (inter xs ys) k).zs)⟩⟩ : Wx) X X2 gh (inter xs ys) (l 0) (l 1) (l 2) (l 3) (l 4) (l 5) (l 6) (l 7) (l 8) true (l 10) v0 v1 v2 v3 v4 v5 (.int .i64 (st.m + M)) v7 v8 (.int .i64 (st.m + M)) V) := hide ⟨(K.s), (K.kW), (K.kN), (K.oD), (K.e0), (K.e1), (K.e2), (K.e3), (K.e4), (K.e5), (K.e6), (K.e7), (K.n3), (K.e8), (K.n8), (fun _ => rfl), (K.o8), (fun h => by cases h), (K.n30), (K.n6), (fun _ => d6)⟩
              clear K hd hl d6
              go_wp2_with fail
              exact ⟨rfl, BwRJ.mk (unhide HK) (by kernel_rfl)⟩
            · simp at ho
              subst ho
              have x7 := K.e7 (hd ⟨7, .data⟩ (by simp) rfl)
              have S0 := K.s
              rw [hl] at S0
              have yy0 : V.cell? ⟨w.heap.size, 0, none⟩ = some (.int .i64 rl) := S0.s.rcv.c 0 (by simp)
              have ff0 : V.frozen? ⟨w.heap.size, 0, none⟩ = false := S0.s.rcv.f 0 (by simp)
              have yy1 : V.cell? ⟨w.heap.size, 1, none⟩ = some (.int .i64 st.n) := S0.s.rcv.c 1 (by simp)
              have ff1 : V.frozen? ⟨w.heap.size, 1, none⟩ = false := S0.s.rcv.f 1 (by simp)
              have yy2 : V.cell? ⟨w.heap.size, 2, none⟩ = some (.int .i64 rk) := S0.s.rcv.c 2 (by simp)
              have ff2 : V.frozen? ⟨w.heap.size, 2, none⟩ = false := S0.s.rcv.f 2 (by simp)
              have HK : Hid (BwR w rl rk st.n A st.m M (.slice (some ⟨g, 0, none⟩) nn c) nn ws st.t (⟨(gtL (elAt (inter xs ys) k).zs), (gtS (elAt (inter xs ys) k).zs), ⟨p, (gtD (elAt (inter xs ys) k).zs).length, q, (gtD (elAt (inter xs ys) k).zs)⟩⟩ : Wx) X X2 gh (inter xs ys) (l 0) (l 1) (l 2) (l 3) (l 4) (l 5) (l 6) (l 7) (l 8) (l 9) true v0 v1 v2 v3 v4 v5 v6 v7 v8 v9 (((V.setCell ⟨w.heap.size, 0, none⟩ (.int .i64 rl)).setCell ⟨w.heap.size, 1, none⟩ (.int .i64 A)).setCell ⟨w.heap.size, 2, none⟩ (.int .i64 rk))) := hide ⟨(S0.setR A), (((K.kW.other (by show w.heap.size ≠ X; omega) _).other (by show w.heap.size ≠ X; omega) _).other (by show w.heap.size ≠ X; omega) _), (((K.kN.other (by show w.heap.size ≠ X2; omega) _).other (by show w.heap.size ≠ X2; omega) _).other (by show w.heap.size ≠ X2; omega) _), (fun h => by have OD := K.oD h; have hno : ∀ S, S < w.heap.size + 2 → (slV (⟨(gtL (elAt (inter xs ys) k).zs), (gtS (elAt (inter xs ys) k).zs), ⟨p, (gtD (elAt (inter xs ys) k).zs).length, q, (gtD (elAt (inter xs ys) k).zs)⟩⟩ : Wx).d).ownBlock ≠ some S := (fun S hS e => by have := (OD.lies S e).1; omega); exact ((OD.set_other _ (hno _ (by omega))).set_other _ (hno _ (by omega))).set_other _ (hno _ (by omega))), (K.e0), (K.e1), (fun h1 h2 => by obtain ⟨qq, a1, a2, a3⟩ := K.e2 h1 h2; exact ⟨qq, a1, ((a2.other (by show w.heap.size ≠ qq; omega) _).other (by show w.heap.size ≠ qq; omega) _).other (by show w.heap.size ≠ qq; omega) _, a3⟩), (K.e3), (K.e4), (K.e5), (K.e6), (K.e7), (K.n3), (K.e8), (K.n8), (K.e9), (K.o8), (K.o9), (K.n30), (K.n6), (K.n9)⟩
              subst x7
              clear K hd hl S0
              go_wp2_with fail
              exact ⟨rfl, BwRJ.mk (unhide HK) (by kernel_rfl)⟩
          rintro l a V hall ⟨v0, v1, v2, v3, v4, v5, v6, v7, v8, v9, rfl, K⟩
          have S9 := K.s
          rw [hall 3 (by decide), hall 10 (by decide)] at S9
          obtain ⟨g9, c9, x3⟩ := K.e3 (hall 3 (by decide))
          have x8 := K.e8 (hall 8 (by decide))
          have x9 := K.e9 (hall 9 (by decide))
          subst x3
          subst x8
          subst x9
          have H9 : Hid (BoH w V rl rk A (.slice (some ⟨g9, 0, none⟩) (nn + 1) c9) (ws ++ [⟨(gtL (elAt (inter xs ys) k).zs), (gtS (elAt (inter xs ys) k).zs), ⟨p, (gtD (elAt (inter xs ys) k).zs).length, q, (gtD (elAt (inter xs ys) k).zs)⟩⟩]) (st.t ++ [⟨(gtL (elAt (inter xs ys) k).zs), (gtS (elAt (inter xs ys) k).zs), (gtD (elAt (inter xs ys) k).zs)⟩]) gh (inter xs ys)) := hide S9
          clear K S9 hall
          go_wp2_with fail
          go_roundw
          case rel => exact ⟨k + 1, ⟨A, st.m + M, st.t ++ [⟨(gtL (elAt (inter xs ys) k).zs), (gtS (elAt (inter xs ys) k).zs), (gtD (elAt (inter xs ys) k).zs)⟩]⟩, ws ++ [⟨(gtL (elAt (inter xs ys) k).zs), (gtS (elAt (inter xs ys) k).zs), ⟨p, (gtD (elAt (inter xs ys) k).zs).length, q, (gtD (elAt (inter xs ys) k).zs)⟩⟩], g9, nn + 1, c9, rfl, rfl, by go_num, by omega, (hide (by simp [unhide HZ])), H9, hide (by have h5 := unhide HFF; rw [unhide HN] at h5; exact h5), hide (by have h5 := unhide HSB; rw [unhide HN] at h5; simp at h5 ⊢; omega)⟩
          case measure => simp [intOf]; omega
      · have hg' : (gtC (elAt (inter xs ys) k).zs != 0) = true := by simpa using hg
        have HN := hide (bo_bad (rl := rl) (rk := rk) (st := st) hg)
        have HQ := hide hg
        clear hV hg
        go_wp2_with fail
        try rw [← unhide HVV]
        clear HVV HXW KW HOD HFR
        go_roundw
        case rel => exact ⟨k + 1, st, ws, g, nn, c, rfl, rfl, by go_num, by omega, HZ, HH, hide (by have h5 := unhide HFF; rw [unhide HN] at h5; exact h5), hide (by have h5 := unhide HSB; rw [unhide HN] at h5; simp at h5 ⊢; omega)⟩
        case measure => simp [intOf]; omega
    · have k1 : ¬ (k : Int) < ((inter xs ys).length : Int) := by omega
      have HH := hide (unhide HH).s
      have HFN : Hid (boR rl n rk (xs.map (·.zs)) (ys.map (·.zs)) = st) := hide (by unfold boR; rw [if_pos (by simp; omega), ← inter_map (·.zs) _ xs ys rfl]; exact ((unhide HF).symm.trans (by rw [List.drop_eq_nil_of_le (by omega)]; rfl)))
      have r0 : wr.cell? ⟨w.heap.size, 0, none⟩ = some (.int .i64 rl) := (unhide HH).rcv.c 0 (by simp)
      have rf0 : wr.frozen? ⟨w.heap.size, 0, none⟩ = false := (unhide HH).rcv.f 0 (by simp)
      have r1 : wr.cell? ⟨w.heap.size, 1, none⟩ = some (.int .i64 st.n) := (unhide HH).rcv.c 1 (by simp)
      have rf1 : wr.frozen? ⟨w.heap.size, 1, none⟩ = false := (unhide HH).rcv.f 1 (by simp)
      have r2 : wr.cell? ⟨w.heap.size, 2, none⟩ = some (.int .i64 rk) := (unhide HH).rcv.c 2 (by simp)
      have rf2 : wr.frozen? ⟨w.heap.size, 2, none⟩ = false := (unhide HH).rcv.f 2 (by simp)
      have z0 : wr.cell? ⟨w.heap.size + 1, 0, none⟩ = some (.int .i64 0) := (unhide HH).res.c 0 (by simp)
      have zf0 : wr.frozen? ⟨w.heap.size + 1, 0, none⟩ = false := (unhide HH).res.f 0 (by simp)
      have z1 : wr.cell? ⟨w.heap.size + 1, 1, none⟩ = some (.int .i64 0) := (unhide HH).res.c 1 (by simp)
      have zf1 : wr.frozen? ⟨w.heap.size + 1, 1, none⟩ = false := (unhide HH).res.f 1 (by simp)
      have z2 : wr.cell? ⟨w.heap.size + 1, 2, none⟩ = some (.int .i64 0) := (unhide HH).res.c 2 (by simp)
      have zf2 : wr.frozen? ⟨w.heap.size + 1, 2, none⟩ = false := (unhide HH).res.f 2 (by simp)
      go_upto_region 13 with fail
      go_region
      go_wp2_with fail
      have hlw : st.t.length = nn := by rw [← (unhide HH).con, List.length_map]; exact unhide HZ
      exact bodyPost_ret (results_BBcell (vs := [.int .i64 rl, .int .i64 st.n, .int .i64 rk]) rfl Try.isAgg52 Try.sizeOf52 rfl (((((unhide HH).res.drewN 1).set 0 (by simp) _).set 1 (by simp) _).set 2 (by simp) _) rfl rfl) rfl ⟨g, c, by rw [unhide HFN, hlw]; rfl, ws, by rw [unhide HFN, hlw]; exact (((((unhide HH).own.below (bel0d 1)).set_low (S := w.heap.size + 1) (by omega) _).set_low (S := w.heap.size + 1) (by omega) _).set_low (S := w.heap.size + 1) (by omega) _).mono (by omega), by rw [unhide HFN]; exact (unhide HH).con, ((((unhide HH).bel.trans (bel0d' 1)).setCell (p := ⟨w.heap.size + 1, 0, none⟩) (by simp) _).setCell (p := ⟨w.heap.size + 1, 1, none⟩) (by simp) _).setCell (p := ⟨w.heap.size + 1, 2, none⟩) (by simp) _⟩

theorem implBoth16_row (rl n rk : Int) (xa ya : Option Addr) (xl xc yl yc : Nat) (xs ys : List Sl) (w : World) (hx : RowE 1 slC w xa xl xs) (hy : RowE 1 slC w ya yl ys) (hxi : ∀ s ∈ xs, SlIn w s) (hyi : ∀ s ∈ ys, SlIn w s) :
    Calls Try.prog 15 #[.agg #[.int .i64 rl, .int .i64 n, .int .i64 rk], .slice xa xl xc, .slice ya yl yc] w fun e w' => ∃ g c, e = .returned (.tuple #[.slice (some ⟨g, 0, none⟩) (boR rl n rk (xs.map (·.zs)) (ys.map (·.zs))).t.length c, .int .i64 (boR rl n rk (xs.map (·.zs)) (ys.map (·.zs))).m, .agg #[.int .i64 rl, .int .i64 (boR rl n rk (xs.map (·.zs)) (ys.map (·.zs))).n, .int .i64 rk]]) ∧ ∃ ws, OwnWd w' w.heap.size (.slice (some ⟨g, 0, none⟩) (boR rl n rk (xs.map (·.zs)) (ys.map (·.zs))).t.length c) ws ∧ ws.map wxW = (boR rl n rk (xs.map (·.zs)) (ys.map (·.zs))).t ∧ Below w.heap.size w w' := by
  by_cases h0 : 200 < xl
  · exact implBoth16_many1 rl n rk xa ya xl xc yl yc xs ys w hx hy hxi hyi h0
  by_cases h1 : 200 < yl
  · exact implBoth16_many2 rl n rk xa ya xl xc yl yc xs ys w hx hy hxi hyi h0 h1
  · exact implBoth16_few rl n rk xa ya xl xc yl yc xs ys w hx hy hxi hyi h0 h1

end Go.Proofs.Yticdccdkjepifaa
