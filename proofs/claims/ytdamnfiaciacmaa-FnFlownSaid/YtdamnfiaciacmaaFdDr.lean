/-
  What the model draws for a flight: some motion, forces, list and step. No condition; nothing that was there is written.
-/
import Derived.Test.YtdamnfiaciacmaaFdLs
import Derived.Deep.RegionLaw
import Derived.Deep.CutRange
namespace Go.Proofs.Ytdamnfiaciacmaa
open Go Go.RowKit
attribute [local go_sem] run_store_float

theorem run_quo_all {P : Program} (t : TypeId) : ∃ (F N : Nat → Nat → World → Nat), ∀ x y w, (binOp .quo t (.float .f64 x) (.float .f64 y)).run P w = .ok (.float .f64 (F x y w)) (w.drewN (N x y w)) := by
  have h := fun (x y : Nat) (w : World) => run_arith (P := P) w (op := .quo) (by decide) .f64 x y
  exact ⟨fun x y w => (h x y w).choose, fun x y w => (h x y w).choose_spec.choose, fun x y w => by simpa [binOp] using (h x y w).choose_spec.choose_spec.1⟩
/-- What DrawFly holds on to: the cursor, its own motion and forces, the results' blocks as they were. -/
structure FdQ (V2 : World) (C : Nat) (a : Option Addr) (len cap : Nat) (W0 : World) (R G : Nat) (ms fs : List Value) (W : World) : Prop where
  k : Dk V2 C a len cap W0 W
  z0 : Blk W R [.float .f64 0, .float .f64 0, .float .f64 0, .float .f64 0]
  z1 : Blk W (R + 1) [.float .f64 0, .float .f64 0, .float .f64 0, .float .f64 0, .float .f64 0]
  m : Blk W G ms
  f : Blk W (G + 1) fs
  hr : R + 1 < C
  hg : C < G
theorem FdQ.call {V2 : World} {C : Nat} {a : Option Addr} {len cap : Nat} {W0 : World} {R G : Nat} {ms fs : List Value} {W W' : World} (h : FdQ V2 C a len cap W0 R G ms fs W) (gr : W.grownBy W' (some C)) (kk : Dk V2 C a len cap W0 W') : FdQ V2 C a len cap W0 R G ms fs W' := by
  have h1 := h.hr
  have h2 := h.hg
  exact ⟨kk, h.z0.apart gr (fun e => by have := Option.some.inj e; omega), h.z1.apart gr (fun e => by have := Option.some.inj e; omega), h.m.apart gr (fun e => by have := Option.some.inj e; omega), h.f.apart gr (fun e => by have := Option.some.inj e; omega), h1, h2⟩
theorem FdQ.drew {V2 : World} {C : Nat} {a : Option Addr} {len cap : Nat} {W0 : World} {R G : Nat} {ms fs : List Value} {W : World} (h : FdQ V2 C a len cap W0 R G ms fs W) : FdQ V2 C a len cap W0 R G ms fs W.drew :=
  ⟨h.k.below (bel0d' 1), h.z0.below (bel0d' 1), h.z1.below (bel0d' 1), h.m.below (bel0d' 1), h.f.below (bel0d' 1), h.hr, h.hg⟩

theorem blk_set4 {W : World} {R : Nat} {z0 z1 z2 z3 a b c d : Value} (h : Blk W R [z0, z1, z2, z3]) : Blk ((((W.setCell ⟨R, 0, none⟩ a).setCell ⟨R, 1, none⟩ b).setCell ⟨R, 2, none⟩ c).setCell ⟨R, 3, none⟩ d) R [a, b, c, d] := by
  have k := (((h.set 0 (by simp) a).set 1 (by simp) b).set 2 (by simp) c).set 3 (by simp) d
  simpa using k
theorem blk_set5 {W : World} {R : Nat} {z0 z1 z2 z3 z4 a b c d e : Value} (h : Blk W R [z0, z1, z2, z3, z4]) : Blk (((((W.setCell ⟨R, 0, none⟩ a).setCell ⟨R, 1, none⟩ b).setCell ⟨R, 2, none⟩ c).setCell ⟨R, 3, none⟩ d).setCell ⟨R, 4, none⟩ e) R [a, b, c, d, e] := by
  have k := ((((h.set 0 (by simp) a).set 1 (by simp) b).set 2 (by simp) c).set 3 (by simp) d).set 4 (by simp) e
  simpa using k
/-- Two results that stand in blocks, two in slots. -/
theorem results_two {fn : Func} {p q r s : Tmp} {t u : TypeId} {tmps : Array Value} {w : World} {B D : Nat} {vs us : List Value} {x y : Value} (h : fn.results = #[.cell p t, .cell q u, .tmp r, .tmp s]) (hA : ∀ w, (isAgg t).run Try.prog w = .ok true w) (hZ : ∀ w, (Go.sizeOf t).run Try.prog w = .ok vs.length w)
    (hA2 : ∀ w, (isAgg u).run Try.prog w = .ok true w) (hZ2 : ∀ w, (Go.sizeOf u).run Try.prog w = .ok us.length w) (hp : tmps.getD p undef = .pointer (some ⟨B, 0, none⟩)) (hq : tmps.getD q undef = .pointer (some ⟨D, 0, none⟩)) (hx : tmps.getD r undef = x) (hy : tmps.getD s undef = y) (hb : Blk w B vs) (hd : Blk w D us) :
    (results fn tmps).run Try.prog w = .ok (.tuple #[.agg vs.toArray, .agg us.toArray, x, y]) w := by
  have h1 := run_loadVar hA hZ hb
  have h2 := run_loadVar hA2 hZ2 hd
  have hp' : tmps[p]?.getD undef = .pointer (some ⟨B, 0, none⟩) := by simpa using hp
  have hq' : tmps[q]?.getD undef = .pointer (some ⟨D, 0, none⟩) := by simpa using hq
  have hx' : tmps[r]?.getD undef = x := by simpa using hx
  have hy' : tmps[s]?.getD undef = y := by simpa using hy
  simp only [results, h]
  simp [hp', hq', hx', hy', asAddr, h1, h2]
/-- What is drawn for a flight. -/
def FyP (w : World) (e : Ending) (w' : World) : Prop := ∃ (x0 x1 x2 x3 f0 f1 f2 f3 f4 : Nat) (b : Option Addr) (n c : Nat) (es : List Nat) (dt : Nat), e = .returned (.tuple #[.agg #[.float .f64 x0, .float .f64 x1, .float .f64 x2, .float .f64 x3], .agg #[.float .f64 f0, .float .f64 f1, .float .f64 f2, .float .f64 f3, .float .f64 f4], .slice b n c, .float .f64 dt]) ∧ OwnE 1 flC w' w.heap.size 24 (.slice b n c) es ∧ n ≤ 500 ∧ Below w.heap.size w w'
theorem FyP.mk {w w' : World} {x0 x1 x2 x3 f0 f1 f2 f3 f4 : Nat} {b : Option Addr} {n c : Nat} {es : List Nat} {dt : Nat} {base : Nat} (h : OwnE 1 flC w' base 24 (.slice b n c) es) (hs : w.heap.size ≤ base) (hn : n ≤ 500) (hb : Below w.heap.size w w') : FyP w (.returned (.tuple #[.agg #[.float .f64 x0, .float .f64 x1, .float .f64 x2, .float .f64 x3], .agg #[.float .f64 f0, .float .f64 f1, .float .f64 f2, .float .f64 f3, .float .f64 f4], .slice b n c, .float .f64 dt])) w' :=
  ⟨x0, x1, x2, x3, f0, f1, f2, f3, f4, b, n, c, es, dt, rfl, h.mono hs, hn, hb⟩
/-- The end of DrawFly: the results' blocks are filled one after the other. -/
structure FyS (w : World) (base : Nat) (v : Value) (es : List Nat) (vs us : List Value) (W : World) : Prop where
  z0 : Blk W w.heap.size vs
  z1 : Blk W (w.heap.size + 1) us
  own : OwnE 1 flC W base 24 v es
  bel : Below w.heap.size w W
  q0 : v.ownBlock ≠ some w.heap.size
  q1 : v.ownBlock ≠ some (w.heap.size + 1)
theorem FyS.set0 {w : World} {base : Nat} {v : Value} {es : List Nat} {a b c d : Value} {us : List Value} {W : World} (h : FyS w base v es [.float .f64 0, .float .f64 0, .float .f64 0, .float .f64 0] us W) :
    FyS w base v es [a, b, c, d] us ((((W.setCell ⟨w.heap.size, 0, none⟩ a).setCell ⟨w.heap.size, 1, none⟩ b).setCell ⟨w.heap.size, 2, none⟩ c).setCell ⟨w.heap.size, 3, none⟩ d) :=
  ⟨blk_set4 h.z0, (((h.z1.other (by simp) _).other (by simp) _).other (by simp) _).other (by simp) _, (((h.own.set_other _ h.q0).set_other _ h.q0).set_other _ h.q0).set_other _ h.q0,
    (((h.bel.setCell (Nat.le_refl _) _).setCell (Nat.le_refl _) _).setCell (Nat.le_refl _) _).setCell (Nat.le_refl _) _, h.q0, h.q1⟩
theorem FyS.set1 {w : World} {base : Nat} {v : Value} {es : List Nat} {a b c d e : Value} {vs : List Value} {W : World} (h : FyS w base v es vs [.float .f64 0, .float .f64 0, .float .f64 0, .float .f64 0, .float .f64 0] W) :
    FyS w base v es vs [a, b, c, d, e] (((((W.setCell ⟨w.heap.size + 1, 0, none⟩ a).setCell ⟨w.heap.size + 1, 1, none⟩ b).setCell ⟨w.heap.size + 1, 2, none⟩ c).setCell ⟨w.heap.size + 1, 3, none⟩ d).setCell ⟨w.heap.size + 1, 4, none⟩ e) :=
  ⟨((((h.z0.other (by simp) _).other (by simp) _).other (by simp) _).other (by simp) _).other (by simp) _, blk_set5 h.z1, ((((h.own.set_other _ h.q1).set_other _ h.q1).set_other _ h.q1).set_other _ h.q1).set_other _ h.q1,
    ((((h.bel.setCell (Nat.le_succ _) _).setCell (Nat.le_succ _) _).setCell (Nat.le_succ _) _).setCell (Nat.le_succ _) _).setCell (Nat.le_succ _) _, h.q0, h.q1⟩
theorem FyS.drewN {w : World} {base : Nat} {v : Value} {es : List Nat} {vs us : List Value} {W : World} (h : FyS w base v es vs us W) (n : Nat) : FyS w base v es vs us (W.drewN n) :=
  ⟨h.z0.drewN _, h.z1.drewN _, h.own.drewN _, h.bel.trans (bel0d' _), h.q0, h.q1⟩
theorem FyS.drew {w : World} {base : Nat} {v : Value} {es : List Nat} {vs us : List Value} {W : World} (h : FyS w base v es vs us W) : FyS w base v es vs us W.drew := h.drewN 1
theorem fy_ret {fn : Func} (h : fn.results = #[.cell 2 26, .cell 3 28, .tmp 4, .tmp 5]) {tmps : Array Value} {w W : World} {x0 x1 x2 x3 f0 f1 f2 f3 f4 dt base n c : Nat} {b : Option Addr} {es : List Nat}
    (h2 : tmps.getD 2 undef = .pointer (some ⟨w.heap.size, 0, none⟩)) (h3 : tmps.getD 3 undef = .pointer (some ⟨w.heap.size + 1, 0, none⟩)) (h4 : tmps.getD 4 undef = .slice b n c) (h5 : tmps.getD 5 undef = .float .f64 dt) (hs : w.heap.size ≤ base) (hn : n ≤ 500)
    (E : FyS w base (.slice b n c) es [.float .f64 x0, .float .f64 x1, .float .f64 x2, .float .f64 x3] [.float .f64 f0, .float .f64 f1, .float .f64 f2, .float .f64 f3, .float .f64 f4] W) : bodyPost Try.prog fn (fun e w' => FyP w e w') .ret {tmps := tmps, defers := []} W :=
  bodyPost_ret (results_two (vs := [.float .f64 x0, .float .f64 x1, .float .f64 x2, .float .f64 x3]) (us := [.float .f64 f0, .float .f64 f1, .float .f64 f2, .float .f64 f3, .float .f64 f4]) h Try.isAgg26 Try.sizeOf26 Try.isAgg28 Try.sizeOf28 h2 h3 h4 h5 E.z0 E.z1) rfl (FyP.mk E.own hs hn E.bel)
set_option maxRecDepth 20000 in
set_option maxHeartbeats 16000000 in
theorem drawFly_any (a : Option Addr) (len cap : Nat) (w : World) (hb : Bytes w a len) (hin : ∀ b off, a = some ⟨b, off, none⟩ → b < w.heap.size) :
    Calls Try.prog 5 #[.slice a len cap] w fun e w' => FyP w e w' := by
  obtain ⟨V2, hV2⟩ : ∃ V, V = (w.alloc (Obj.cells #[.float .f64 0, .float .f64 0, .float .f64 0, .float .f64 0] 26)).alloc (Obj.cells #[.float .f64 0, .float .f64 0, .float .f64 0, .float .f64 0, .float .f64 0] 28) := ⟨_, rfl⟩
  have b0 : Below w.heap.size w V2 := by rw [hV2]; exact bel2 _ _
  have s2 : V2.heap.size = w.heap.size + 2 := by rw [hV2]; simp
  have Y0 : Hid (Blk V2 w.heap.size [.float .f64 0, .float .f64 0, .float .f64 0, .float .f64 0]) := hide (by rw [hV2]; exact (Blk.new (w := w) [.float .f64 0, .float .f64 0, .float .f64 0, .float .f64 0] 26).alloc _)
  have Y1 : Hid (Blk V2 (w.heap.size + 1) [.float .f64 0, .float .f64 0, .float .f64 0, .float .f64 0, .float .f64 0]) := hide (by rw [hV2]; have k := Blk.new (w := w.alloc (Obj.cells #[.float .f64 0, .float .f64 0, .float .f64 0, .float .f64 0] 26)) [.float .f64 0, .float .f64 0, .float .f64 0, .float .f64 0, .float .f64 0] 28; simpa using k)
  have HB2 := hide (hb.below b0)
  have HIN : Hid (∀ b off, a = some ⟨b, off, none⟩ → b < V2.heap.size) := hide (fun b off e => by have := hin b off e; omega)
  have HBB := hide b0
  have HV2 := hide hV2
  have HS2 := hide s2
  clear hb hin b0 hV2 s2
  go_enter Try.func5, Try.ntmps5
  go_wp2_with fail
  rw [← unhide HV2]
  refine (drNew a len cap V2 (unhide HB2) (unhide HIN)).mono ?_
  rintro e w1 ⟨rfl, d1, bb⟩
  have K1 : Hid (Dk V2 V2.heap.size a len cap w1 w1) := hide (Dk.start d1 (unhide HIN))
  have Z0 := hide ((unhide Y0).below bb)
  have Z1 := hide ((unhide Y1).below bb)
  have hne0 : w.heap.size ≠ V2.heap.size := by have := unhide HS2; omega
  have hne1 : w.heap.size + 1 ≠ V2.heap.size := by have := unhide HS2; omega
  clear d1 bb Y0 Y1 HB2
  obtain ⟨C, hC⟩ : ∃ C, V2.heap.size = C := ⟨_, rfl⟩
  rw [hC] at K1 hne0 hne1 ⊢
  have HC := hide hC
  clear hC
  go_wp2_with fail
  refine (l5DrawMotion_any _ (unhide K1)).mono ?_
  rintro e w2 ⟨x0, x1, x2, x3, rfl, kk, gr⟩
  have K2 := hide kk
  have Z0 := hide ((unhide Z0).apart gr (fun e => hne0 (Option.some.inj e)))
  have Z1 := hide ((unhide Z1).apart gr (fun e => hne1 (Option.some.inj e)))
  clear kk gr K1
  go_wp2_with fail
  refine (l5DrawForces_any _ (unhide K2)).mono ?_
  rintro e w3 ⟨f0, f1, f2, f3, f4, rfl, kk, gr⟩
  have K3 := hide kk
  have Z0 := hide ((unhide Z0).apart gr (fun e => hne0 (Option.some.inj e)))
  have Z1 := hide ((unhide Z1).apart gr (fun e => hne1 (Option.some.inj e)))
  clear kk gr K2
  go_upto_region 3 with fail
  obtain ⟨VQ, hVQ⟩ : ∃ V, V = (w3.alloc (Obj.cells #[.float .f64 x0, .float .f64 x1, .float .f64 x2, .float .f64 x3] 26)).alloc (Obj.cells #[.float .f64 f0, .float .f64 f1, .float .f64 f2, .float .f64 f3, .float .f64 f4] 28) := ⟨_, rfl⟩
  have hw3 : C < w3.heap.size := (unhide K3).d.lt
  have QQ : Hid (FdQ V2 C a len cap w1 w.heap.size w3.heap.size [.float .f64 x0, .float .f64 x1, .float .f64 x2, .float .f64 x3] [.float .f64 f0, .float .f64 f1, .float .f64 f2, .float .f64 f3, .float .f64 f4] VQ) := hide (by
    have bq : Below w3.heap.size w3 VQ := by rw [hVQ]; exact bel2 _ _
    have e1 := unhide HC
    have e2 := unhide HS2
    refine ⟨(unhide K3).below bq, (unhide Z0).below bq, (unhide Z1).below bq, ?_, ?_, by omega, hw3⟩
    · rw [hVQ]; exact (Blk.new (w := w3) [.float .f64 x0, .float .f64 x1, .float .f64 x2, .float .f64 x3] 26).alloc _
    · rw [hVQ]; have k := Blk.new (w := w3.alloc (Obj.cells #[.float .f64 x0, .float .f64 x1, .float .f64 x2, .float .f64 x3] 26)) [.float .f64 f0, .float .f64 f1, .float .f64 f2, .float .f64 f3, .float .f64 f4] 28; simpa using k)
  rw [← hVQ]
  have HSZ : Hid (C + 2 ≤ VQ.heap.size ∧ w.heap.size + 1 < C) := hide (by rw [hVQ]; refine ⟨by simp; omega, (unhide QQ).hr⟩)
  clear hVQ K3 Z0 Z1 hne0 hne1
  obtain ⟨n1, n2, n3, n4, n5, n6⟩ : (¬ w3.heap.size + 1 = w.heap.size) ∧ (¬ w3.heap.size = w.heap.size) ∧ (¬ w3.heap.size = w.heap.size + 1) ∧ (¬ w.heap.size = w3.heap.size + 1) ∧ (¬ w.heap.size = w3.heap.size) ∧ (¬ w.heap.size + 1 = w3.heap.size) := by
    have h1 := (unhide QQ).hr
    have h2 := (unhide QQ).hg
    omega
  obtain ⟨F, N, hquo⟩ := run_quo_all (P := Try.prog) 24
  have m0VQ : VQ.cell? ⟨w3.heap.size, 0, none⟩ = some (.float .f64 x0) := (unhide QQ).m.c 0 (by simp)
  have m1VQ : VQ.cell? ⟨w3.heap.size, 1, none⟩ = some (.float .f64 x1) := (unhide QQ).m.c 1 (by simp)
  have m2VQ : VQ.cell? ⟨w3.heap.size, 2, none⟩ = some (.float .f64 x2) := (unhide QQ).m.c 2 (by simp)
  have m3VQ : VQ.cell? ⟨w3.heap.size, 3, none⟩ = some (.float .f64 x3) := (unhide QQ).m.c 3 (by simp)
  have f0VQ : VQ.cell? ⟨w3.heap.size + 1, 0, none⟩ = some (.float .f64 f0) := (unhide QQ).f.c 0 (by simp)
  have f1VQ : VQ.cell? ⟨w3.heap.size + 1, 1, none⟩ = some (.float .f64 f1) := (unhide QQ).f.c 1 (by simp)
  have f2VQ : VQ.cell? ⟨w3.heap.size + 1, 2, none⟩ = some (.float .f64 f2) := (unhide QQ).f.c 2 (by simp)
  have f3VQ : VQ.cell? ⟨w3.heap.size + 1, 3, none⟩ = some (.float .f64 f3) := (unhide QQ).f.c 3 (by simp)
  have f4VQ : VQ.cell? ⟨w3.heap.size + 1, 4, none⟩ = some (.float .f64 f4) := (unhide QQ).f.c 4 (by simp)
  go_cut [4, 5] from 15 to 21 (fun s4 s5 wc => ∃ (b : Option Addr) (n c : Nat) (es : List Nat) (dt : Nat), s4 = .slice b n c ∧ s5 = .float .f64 dt ∧ n ≤ 500 ∧ FyS w VQ.heap.size (.slice b n c) es [.float .f64 x0, .float .f64 x1, .float .f64 x2, .float .f64 x3] [.float .f64 f0, .float .f64 f1, .float .f64 f2, .float .f64 f3, .float .f64 f4] wc)
  case first =>
    go_region_law (first
      | ((fail_if_success have := D1); go_simp; go_wp2_with (go_at_call 16; refine (l5DrawList_any _ (by first | exact (unhide QQ).k | exact (unhide QQ).drew.k)).mono ?_; rintro e u1 ⟨b, n, c, es, rfl, ol, hn, kk, gr⟩; have D1 : Hid (FdQ V2 C a len cap w1 w.heap.size w3.heap.size [.float .f64 x0, .float .f64 x1, .float .f64 x2, .float .f64 x3] [.float .f64 f0, .float .f64 f1, .float .f64 f2, .float .f64 f3, .float .f64 f4] u1) := hide (FdQ.call (by first | exact unhide QQ | exact (unhide QQ).drew) gr kk); have O1 : Hid (OwnE 1 flC u1 VQ.heap.size 24 (.slice b n c) es) := hide ol; have m0u1 : u1.cell? ⟨w3.heap.size, 0, none⟩ = some (.float .f64 x0) := (unhide D1).m.c 0 (by simp); have m1u1 : u1.cell? ⟨w3.heap.size, 1, none⟩ = some (.float .f64 x1) := (unhide D1).m.c 1 (by simp); have m2u1 : u1.cell? ⟨w3.heap.size, 2, none⟩ = some (.float .f64 x2) := (unhide D1).m.c 2 (by simp); have m3u1 : u1.cell? ⟨w3.heap.size, 3, none⟩ = some (.float .f64 x3) := (unhide D1).m.c 3 (by simp); have f0u1 : u1.cell? ⟨w3.heap.size + 1, 0, none⟩ = some (.float .f64 f0) := (unhide D1).f.c 0 (by simp); have f1u1 : u1.cell? ⟨w3.heap.size + 1, 1, none⟩ = some (.float .f64 f1) := (unhide D1).f.c 1 (by simp); have f2u1 : u1.cell? ⟨w3.heap.size + 1, 2, none⟩ = some (.float .f64 f2) := (unhide D1).f.c 2 (by simp); have f3u1 : u1.cell? ⟨w3.heap.size + 1, 3, none⟩ = some (.float .f64 f3) := (unhide D1).f.c 3 (by simp); have f4u1 : u1.cell? ⟨w3.heap.size + 1, 4, none⟩ = some (.float .f64 f4) := (unhide D1).f.c 4 (by simp); clear ol kk gr))
      | ((fail_if_success (fail_if_success have := D1)); (fail_if_success have := D2); go_simp; go_wp2_with (go_at_call 17; refine (l5Draw_g _ (by first | exact (unhide D1).k | exact (unhide D1).drew.k)).mono ?_; rintro e u2 ⟨z, rfl, kk, gr⟩; have D2 : Hid (FdQ V2 C a len cap w1 w.heap.size w3.heap.size [.float .f64 x0, .float .f64 x1, .float .f64 x2, .float .f64 x3] [.float .f64 f0, .float .f64 f1, .float .f64 f2, .float .f64 f3, .float .f64 f4] u2) := hide (FdQ.call (by first | exact unhide D1 | exact (unhide D1).drew) gr kk); have O2 : Hid (OwnE 1 flC u2 VQ.heap.size 24 (.slice b n c) es) := hide (OwnE.far (by first | exact unhide O1 | exact (unhide O1).drewN 1) gr (fun q hq e => by have h1 := ((unhide O1).lies q hq).1; have h2 := Option.some.inj e; have h3 := (unhide HSZ).1; omega)); have m0u2 : u2.cell? ⟨w3.heap.size, 0, none⟩ = some (.float .f64 x0) := (unhide D2).m.c 0 (by simp); have m1u2 : u2.cell? ⟨w3.heap.size, 1, none⟩ = some (.float .f64 x1) := (unhide D2).m.c 1 (by simp); have m2u2 : u2.cell? ⟨w3.heap.size, 2, none⟩ = some (.float .f64 x2) := (unhide D2).m.c 2 (by simp); have m3u2 : u2.cell? ⟨w3.heap.size, 3, none⟩ = some (.float .f64 x3) := (unhide D2).m.c 3 (by simp); have f0u2 : u2.cell? ⟨w3.heap.size + 1, 0, none⟩ = some (.float .f64 f0) := (unhide D2).f.c 0 (by simp); have f1u2 : u2.cell? ⟨w3.heap.size + 1, 1, none⟩ = some (.float .f64 f1) := (unhide D2).f.c 1 (by simp); have f2u2 : u2.cell? ⟨w3.heap.size + 1, 2, none⟩ = some (.float .f64 f2) := (unhide D2).f.c 2 (by simp); have f3u2 : u2.cell? ⟨w3.heap.size + 1, 3, none⟩ = some (.float .f64 f3) := (unhide D2).f.c 3 (by simp); have f4u2 : u2.cell? ⟨w3.heap.size + 1, 4, none⟩ = some (.float .f64 f4) := (unhide D2).f.c 4 (by simp); have r0 : u2.cell? ⟨w.heap.size, 0, none⟩ = some (.float .f64 0) := (unhide D2).z0.c 0 (by simp); have s0 : u2.frozen? ⟨w.heap.size, 0, none⟩ = false := (unhide D2).z0.f 0 (by simp); have r1 : u2.cell? ⟨w.heap.size, 1, none⟩ = some (.float .f64 0) := (unhide D2).z0.c 1 (by simp); have s1 : u2.frozen? ⟨w.heap.size, 1, none⟩ = false := (unhide D2).z0.f 1 (by simp); have r2 : u2.cell? ⟨w.heap.size, 2, none⟩ = some (.float .f64 0) := (unhide D2).z0.c 2 (by simp); have s2 : u2.frozen? ⟨w.heap.size, 2, none⟩ = false := (unhide D2).z0.f 2 (by simp); have r3 : u2.cell? ⟨w.heap.size, 3, none⟩ = some (.float .f64 0) := (unhide D2).z0.c 3 (by simp); have s3 : u2.frozen? ⟨w.heap.size, 3, none⟩ = false := (unhide D2).z0.f 3 (by simp); have rr0 : u2.cell? ⟨w.heap.size + 1, 0, none⟩ = some (.float .f64 0) := (unhide D2).z1.c 0 (by simp); have ss0 : u2.frozen? ⟨w.heap.size + 1, 0, none⟩ = false := (unhide D2).z1.f 0 (by simp); have rr1 : u2.cell? ⟨w.heap.size + 1, 1, none⟩ = some (.float .f64 0) := (unhide D2).z1.c 1 (by simp); have ss1 : u2.frozen? ⟨w.heap.size + 1, 1, none⟩ = false := (unhide D2).z1.f 1 (by simp); have rr2 : u2.cell? ⟨w.heap.size + 1, 2, none⟩ = some (.float .f64 0) := (unhide D2).z1.c 2 (by simp); have ss2 : u2.frozen? ⟨w.heap.size + 1, 2, none⟩ = false := (unhide D2).z1.f 2 (by simp); have rr3 : u2.cell? ⟨w.heap.size + 1, 3, none⟩ = some (.float .f64 0) := (unhide D2).z1.c 3 (by simp); have ss3 : u2.frozen? ⟨w.heap.size + 1, 3, none⟩ = false := (unhide D2).z1.f 3 (by simp); have rr4 : u2.cell? ⟨w.heap.size + 1, 4, none⟩ = some (.float .f64 0) := (unhide D2).z1.c 4 (by simp); have ss4 : u2.frozen? ⟨w.heap.size + 1, 4, none⟩ = false := (unhide D2).z1.f 4 (by simp); clear kk gr)))
    all_goals
      go_wp2_with fail
      (try go_simp)
      go_meet
      case rel =>
        have B2 := (unhide HBB).trans ((unhide D2).k.d.bel.mono (unhide HBB).size)
        have q0 : (Value.slice b n c).ownBlock ≠ some w.heap.size := fun e => by have h1 := ((unhide O2).lies _ e).1; have h2 := (unhide HSZ); omega
        have q1 : (Value.slice b n c).ownBlock ≠ some (w.heap.size + 1) := fun e => by have h1 := ((unhide O2).lies _ e).1; have h2 := (unhide HSZ); omega
        have E0 : FyS w VQ.heap.size (.slice b n c) es [.float .f64 0, .float .f64 0, .float .f64 0, .float .f64 0] [.float .f64 0, .float .f64 0, .float .f64 0, .float .f64 0, .float .f64 0] u2 := ⟨(unhide D2).z0, (unhide D2).z1, unhide O2, B2, q0, q1⟩
        refine ⟨b, n, c, es, _, rfl, rfl, hn, ?_⟩
        repeat (first | (with_reducible exact E0) | (with_reducible refine FyS.set0 ?_) | (with_reducible refine FyS.set1 ?_) | (with_reducible refine FyS.drewN ?_ _) | (with_reducible refine FyS.drew ?_))
  case rest =>
    obtain ⟨b, n, c, es, dt, rfl, rfl, hn, E⟩ := hcut
    have hsz : w.heap.size ≤ VQ.heap.size := by have h2 := (unhide HSZ); omega
    go_wp2_with fail
    exact fy_ret rfl rfl rfl rfl rfl hsz hn E

end Go.Proofs.Ytdamnfiaciacmaa
