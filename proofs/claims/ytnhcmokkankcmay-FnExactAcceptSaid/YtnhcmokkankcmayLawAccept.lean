/-
  The law FnExactAccept returns true at every argument and writes nothing that was there: the walk. No condition.
-/
import Derived.Test.YtnhcmokkankcmayToRv
import Derived.Test.YtnhcmokkankcmayWdTo
import Derived.Test.YtnhcmokkankcmayBuAny
import Derived.Test.YtnhcmokkankcmayOnly
import Derived.Test.YtnhcmokkankcmayRegInv
import Derived.Deep.RegionHeld3
namespace Go.Proofs.Ytnhcmokkankcmay
open Go.RowKit
structure AcceptRspec0 (w2 : World) (rl : Int) (rn : Int) (rk : Int) (wl : Int) (ws : Int) (va1 : Option Addr) (vl1 : Nat) (vc1 : Nat) (ys : List Int) (t0 t1 t2 t3 t4 t5 t6 t7 t8 t9 t10 t11 t12 : Bool) (v0 v1 v2 v3 v4 v5 v6 v7 v8 v9 v11 v12 : Value) (W : World) : Prop where
  bel : Below w2.heap.size w2 W
  e0 : t0 = true → v0 = .agg #[.int .i64 rl, .int .i64 rn, .int .i64 rk]
  e1 : t1 = true → v1 = .agg #[.int .i64 rl, .int .i64 rn, .int .i64 rk]
  e2 : t2 = true → v2 = .agg #[.int .i64 wl, .int .i64 ws, .slice va1 vl1 vc1]
  e3 : t3 = true → t4 = false → ∃ g2, v3 = .agg #[.int .i64 wl, .int .i64 ws, .slice (some ⟨g2, 0, none⟩) vl1 vl1] ∧ WdOwn W w2.heap.size (some ⟨g2, 0, none⟩) vl1 vl1 ys
  e4 : t4 = true → v4 = .tuple #[.agg #[.int .i64 rl, .int .i64 (acN rl rn rk wl ws vl1), .int .i64 rk], .bool (acB rl rn rk wl ws vl1), .int .i64 (acM rl rn rk wl ws vl1)]
  e5 : t5 = true → v5 = .tuple #[.agg #[.int .i64 rl, .int .i64 (acN rl rn rk wl ws vl1), .int .i64 rk], .bool (acB rl rn rk wl ws vl1), .int .i64 (acM rl rn rk wl ws vl1)]
  c5 : t5 = true → t4 = true
  e6 : t6 = true → v6 = .agg #[.int .i64 rl, .int .i64 (acN rl rn rk wl ws vl1), .int .i64 rk]
  c6 : t6 = true → t4 = true
  e7 : t7 = true → v7 = .bool (acB rl rn rk wl ws vl1)
  c7 : t7 = true → t4 = true
  e8 : t8 = true → v8 = .int .i64 (acM rl rn rk wl ws vl1)
  c8 : t8 = true → t4 = true
  e9 : t9 = true → ∃ P, v9 = .pointer (some ⟨P, 0, none⟩) ∧ w2.heap.size ≤ P ∧ Blk W P (bif t10 then [.int .i64 rl, .int .i64 (acN rl rn rk wl ws vl1), .int .i64 rk] else [.int .i64 0, .int .i64 0, .int .i64 0])
  n10 : t10 = true → t9 = true
  e11 : t11 = true → v11 = .bool (acB rl rn rk wl ws vl1)
  e12 : t12 = true → v12 = .int .i64 (acM rl rn rk wl ws vl1)
theorem AcceptRspec0.below {w2 : World} {rl : Int} {rn : Int} {rk : Int} {wl : Int} {ws : Int} {va1 : Option Addr} {vl1 : Nat} {vc1 : Nat} {ys : List Int} {t0 t1 t2 t3 t4 t5 t6 t7 t8 t9 t10 t11 t12 : Bool} {v0 v1 v2 v3 v4 v5 v6 v7 v8 v9 v11 v12 : Value} {W W' : World} (K : AcceptRspec0 w2 rl rn rk wl ws va1 vl1 vc1 ys t0 t1 t2 t3 t4 t5 t6 t7 t8 t9 t10 t11 t12 v0 v1 v2 v3 v4 v5 v6 v7 v8 v9 v11 v12 W) (k : Below W.heap.size W W') : AcceptRspec0 w2 rl rn rk wl ws va1 vl1 vc1 ys t0 t1 t2 t3 t4 t5 t6 t7 t8 t9 t10 t11 t12 v0 v1 v2 v3 v4 v5 v6 v7 v8 v9 v11 v12 W' :=
  ⟨K.bel.trans (k.mono K.bel.size), K.e0, K.e1, K.e2, fun h1 h2 => by obtain ⟨g2, x1, x2⟩ := K.e3 h1 h2; exact ⟨g2, x1, x2.below k⟩, K.e4, K.e5, K.c5, K.e6, K.c6, K.e7, K.c7, K.e8, K.c8, fun h => by obtain ⟨P, x1, x2, x3⟩ := K.e9 h; exact ⟨P, x1, x2, x3.below k⟩, K.n10, K.e11, K.e12⟩
def AcceptRspec0J (w2 : World) (rl : Int) (rn : Int) (rk : Int) (wl : Int) (ws : Int) (va1 : Option Addr) (vl1 : Nat) (vc1 : Nat) (ys : List Int) (A0 : Act) (l : Nat → Bool) (a : Act) (V : World) : Prop := ∃ (v0 v1 v2 v3 v4 v5 v6 v7 v8 v9 v11 v12 : Value), a = ((((((((((((A0.put (some 19) v0).put (some 20) v1).put (some 21) v2).put (some 22) v3).put (some 23) v4).put (some 18) v5).put (some 24) v6).put (some 25) v7).put (some 26) v8).put (some 6) v9).put (some 7) v11).put (some 8) v12) ∧ AcceptRspec0 w2 rl rn rk wl ws va1 vl1 vc1 ys (l 0) (l 1) (l 2) (l 3) (l 4) (l 5) (l 6) (l 7) (l 8) (l 9) (l 10) (l 11) (l 12) v0 v1 v2 v3 v4 v5 v6 v7 v8 v9 v11 v12 V
theorem AcceptRspec0J.mk {w2 : World} {rl : Int} {rn : Int} {rk : Int} {wl : Int} {ws : Int} {va1 : Option Addr} {vl1 : Nat} {vc1 : Nat} {ys : List Int} {A0 : Act} {l : Nat → Bool} {a : Act} {V : World} {v0 v1 v2 v3 v4 v5 v6 v7 v8 v9 v11 v12 : Value} (K : AcceptRspec0 w2 rl rn rk wl ws va1 vl1 vc1 ys (l 0) (l 1) (l 2) (l 3) (l 4) (l 5) (l 6) (l 7) (l 8) (l 9) (l 10) (l 11) (l 12) v0 v1 v2 v3 v4 v5 v6 v7 v8 v9 v11 v12 V) (h : a = ((((((((((((A0.put (some 19) v0).put (some 20) v1).put (some 21) v2).put (some 22) v3).put (some 23) v4).put (some 18) v5).put (some 24) v6).put (some 25) v7).put (some 26) v8).put (some 6) v9).put (some 7) v11).put (some 8) v12)) : AcceptRspec0J w2 rl rn rk wl ws va1 vl1 vc1 ys A0 l a V := ⟨v0, v1, v2, v3, v4, v5, v6, v7, v8, v9, v11, v12, h, K⟩

structure AcceptRimpl1 (w5 : World) (rl : Int) (rn : Int) (rk : Int) (wl : Int) (ws : Int) (vl1 : Nat) (g4 : Nat) (t0 t1 t2 t3 t4 t5 t6 t7 t8 t9 t10 t11 : Bool) (v0 v1 v2 v3 v4 v5 v6 v7 v8 v10 v11 : Value) (W : World) : Prop where
  bel : Below w5.heap.size w5 W
  e0 : t0 = true → v0 = .agg #[.int .i64 rl, .int .i64 rn, .int .i64 rk]
  e1 : t1 = true → v1 = .agg #[.int .i64 rl, .int .i64 rn, .int .i64 rk]
  e2 : t2 = true → v2 = .agg #[.int .i64 wl, .int .i64 ws, .slice (some ⟨g4, 0, none⟩) vl1 vl1]
  e3 : t3 = true → v3 = .tuple #[.agg #[.int .i64 rl, .int .i64 (acN rl rn rk wl ws vl1), .int .i64 rk], .bool (acB rl rn rk wl ws vl1), .int .i64 (acM rl rn rk wl ws vl1)]
  e4 : t4 = true → v4 = .tuple #[.agg #[.int .i64 rl, .int .i64 (acN rl rn rk wl ws vl1), .int .i64 rk], .bool (acB rl rn rk wl ws vl1), .int .i64 (acM rl rn rk wl ws vl1)]
  c4 : t4 = true → t3 = true
  e5 : t5 = true → v5 = .agg #[.int .i64 rl, .int .i64 (acN rl rn rk wl ws vl1), .int .i64 rk]
  c5 : t5 = true → t3 = true
  e6 : t6 = true → v6 = .bool (acB rl rn rk wl ws vl1)
  c6 : t6 = true → t3 = true
  e7 : t7 = true → v7 = .int .i64 (acM rl rn rk wl ws vl1)
  c7 : t7 = true → t3 = true
  e8 : t8 = true → ∃ P, v8 = .pointer (some ⟨P, 0, none⟩) ∧ w5.heap.size ≤ P ∧ Blk W P (bif t9 then [.int .i64 rl, .int .i64 (acN rl rn rk wl ws vl1), .int .i64 rk] else [.int .i64 0, .int .i64 0, .int .i64 0])
  n9 : t9 = true → t8 = true
  e10 : t10 = true → v10 = .bool (acB rl rn rk wl ws vl1)
  e11 : t11 = true → v11 = .int .i64 (acM rl rn rk wl ws vl1)
theorem AcceptRimpl1.below {w5 : World} {rl : Int} {rn : Int} {rk : Int} {wl : Int} {ws : Int} {vl1 : Nat} {g4 : Nat} {t0 t1 t2 t3 t4 t5 t6 t7 t8 t9 t10 t11 : Bool} {v0 v1 v2 v3 v4 v5 v6 v7 v8 v10 v11 : Value} {W W' : World} (K : AcceptRimpl1 w5 rl rn rk wl ws vl1 g4 t0 t1 t2 t3 t4 t5 t6 t7 t8 t9 t10 t11 v0 v1 v2 v3 v4 v5 v6 v7 v8 v10 v11 W) (k : Below W.heap.size W W') : AcceptRimpl1 w5 rl rn rk wl ws vl1 g4 t0 t1 t2 t3 t4 t5 t6 t7 t8 t9 t10 t11 v0 v1 v2 v3 v4 v5 v6 v7 v8 v10 v11 W' :=
  ⟨K.bel.trans (k.mono K.bel.size), K.e0, K.e1, K.e2, K.e3, K.e4, K.c4, K.e5, K.c5, K.e6, K.c6, K.e7, K.c7, fun h => by obtain ⟨P, x1, x2, x3⟩ := K.e8 h; exact ⟨P, x1, x2, x3.below k⟩, K.n9, K.e10, K.e11⟩
def AcceptRimpl1J (w5 : World) (rl : Int) (rn : Int) (rk : Int) (wl : Int) (ws : Int) (vl1 : Nat) (g4 : Nat) (A0 : Act) (l : Nat → Bool) (a : Act) (V : World) : Prop := ∃ (v0 v1 v2 v3 v4 v5 v6 v7 v8 v10 v11 : Value), a = (((((((((((A0.put (some 30) v0).put (some 31) v1).put (some 32) v2).put (some 33) v3).put (some 29) v4).put (some 34) v5).put (some 35) v6).put (some 36) v7).put (some 10) v8).put (some 11) v10).put (some 12) v11) ∧ AcceptRimpl1 w5 rl rn rk wl ws vl1 g4 (l 0) (l 1) (l 2) (l 3) (l 4) (l 5) (l 6) (l 7) (l 8) (l 9) (l 10) (l 11) v0 v1 v2 v3 v4 v5 v6 v7 v8 v10 v11 V
theorem AcceptRimpl1J.mk {w5 : World} {rl : Int} {rn : Int} {rk : Int} {wl : Int} {ws : Int} {vl1 : Nat} {g4 : Nat} {A0 : Act} {l : Nat → Bool} {a : Act} {V : World} {v0 v1 v2 v3 v4 v5 v6 v7 v8 v10 v11 : Value} (K : AcceptRimpl1 w5 rl rn rk wl ws vl1 g4 (l 0) (l 1) (l 2) (l 3) (l 4) (l 5) (l 6) (l 7) (l 8) (l 9) (l 10) (l 11) v0 v1 v2 v3 v4 v5 v6 v7 v8 v10 v11 V) (h : a = (((((((((((A0.put (some 30) v0).put (some 31) v1).put (some 32) v2).put (some 33) v3).put (some 29) v4).put (some 34) v5).put (some 35) v6).put (some 36) v7).put (some 10) v8).put (some 11) v10).put (some 12) v11)) : AcceptRimpl1J w5 rl rn rk wl ws vl1 g4 A0 l a V := ⟨v0, v1, v2, v3, v4, v5, v6, v7, v8, v10, v11, h, K⟩

set_option maxRecDepth 20000 in
set_option maxHeartbeats 8000000 in
theorem lawAccept (rl rn rk : Int) (wl ws : Int) (va1 : Option Addr) (vl1 vc1 : Nat) (ys : List Int) (w : World) (hrv : WdIn w va1 vl1 ys)  :
    Calls Try.prog 7 #[.agg #[.int .i64 rl, .int .i64 rn, .int .i64 rk], .agg #[.int .i64 wl, .int .i64 ws, .slice va1 vl1 vc1]] w fun x w' => x = .returned (.bool true) ∧ Below w.heap.size w w' := by
  have Rv := hide hrv
  have smv1 := hrv.r1.small
  have Ev1 := hide hrv.r1.len_eq
  clear hrv
  have hq0 : (acB rl rn rk wl ws vl1 != acB rl rn rk wl ws vl1) = false := by simp
  have hq1 : (acM rl rn rk wl ws vl1 != acM rl rn rk wl ws vl1) = false := by simp
  go_enter Try.func7, Try.ntmps7
  go_wp2_with fail
  obtain ⟨w1, hw1⟩ : ∃ W, W = ((w.alloc (Obj.cells #[.int .i64 rl, .int .i64 rn, .int .i64 rk] 41)).alloc (Obj.cells #[.int .i64 wl, .int .i64 ws, .slice va1 vl1 vc1] 24)) := ⟨_, rfl⟩
  rw [← hw1]
  have K : Hid (Below w.heap.size w w1 ∧ Blk w1 w.heap.size [.int .i64 rl, .int .i64 rn, .int .i64 rk] ∧ Blk w1 (w.heap.size + 1) [.int .i64 wl, .int .i64 ws, .slice va1 vl1 vc1]) := hide ⟨(by rw [hw1]; exact bel2 _ _), (by rw [hw1]; exact blkAt2_0), (by rw [hw1]; exact blkAt2_1)⟩
  have S0 : Hid (w.heap.size + 2 ≤ w1.heap.size) := hide (by rw [hw1]; simp; try omega)
  clear hw1
  have KEPT : Hid (∀ W u3, (Below w.heap.size w W ∧ Blk W w.heap.size [.int .i64 rl, .int .i64 rn, .int .i64 rk] ∧ Blk W (w.heap.size + 1) [.int .i64 wl, .int .i64 ws, .slice va1 vl1 vc1]) → Below W.heap.size W u3 → (Below w.heap.size w u3 ∧ Blk u3 w.heap.size [.int .i64 rl, .int .i64 rn, .int .i64 rk] ∧ Blk u3 (w.heap.size + 1) [.int .i64 wl, .int .i64 ws, .slice va1 vl1 vc1])) := hide (fun W u3 h b => ⟨h.1.trans (b.mono h.1.size), h.2.1.below b, h.2.2.below b⟩)
  refine (szWord16_any _ _ _ _ _ 1048576 _ smv1 (by omega) (by omega)).mono ?_
  rintro x w2 ⟨⟨r1, rfl, hl⟩, b⟩
  have S1 : Hid (w1.heap.size ≤ w2.heap.size) := hide b.size
  have K : Hid (Below w.heap.size w w2 ∧ Blk w2 w.heap.size [.int .i64 rl, .int .i64 rn, .int .i64 rk] ∧ Blk w2 (w.heap.size + 1) [.int .i64 wl, .int .i64 ws, .slice va1 vl1 vc1]) := hide ((unhide KEPT) _ _ (unhide K) b)
  clear b
  rcases hl with hl | ⟨hl, hle, hv1⟩
  · go_wp2_with fail
    go_ret
    exact ⟨rfl, (unhide K).1⟩
  have nr1 : ¬ r1 < 0 := by omega
  have mPd0 : w2.cell? ⟨w.heap.size, 0, none⟩ = some (.int .i64 rl) := (unhide K).2.1.c 0 (by simp)
  have mPd1 : w2.cell? ⟨w.heap.size, 1, none⟩ = some (.int .i64 rn) := (unhide K).2.1.c 1 (by simp)
  have mPd2 : w2.cell? ⟨w.heap.size, 2, none⟩ = some (.int .i64 rk) := (unhide K).2.1.c 2 (by simp)
  have mPv0 : w2.cell? ⟨w.heap.size + 1, 0, none⟩ = some (.int .i64 wl) := (unhide K).2.2.c 0 (by simp)
  have mPv1 : w2.cell? ⟨w.heap.size + 1, 1, none⟩ = some (.int .i64 ws) := (unhide K).2.2.c 1 (by simp)
  have mPv2 : w2.cell? ⟨w.heap.size + 1, 2, none⟩ = some (.slice va1 vl1 vc1) := (unhide K).2.2.c 2 (by simp)
  go_wp2_with fail
  clear mPd0 mPd1 mPd2 mPv0 mPv1 mPv2
  have HPd := hide (unhide K).2.1
  have HPv := hide (unhide K).2.2
  have HIv := hide ((unhide Rv).below (unhide K).1)
  refine wp_region_flagsA (by kernel_rfl) (by kernel_rfl) (AcceptRspec0J w2 rl rn rk wl ws va1 vl1 vc1 ys) ?_ ?_ ?_
  · exact AcceptRspec0J.mk (v0 := undef) (v1 := undef) (v2 := undef) (v3 := undef) (v4 := undef) (v5 := undef) (v6 := undef) (v7 := undef) (v8 := undef) (v9 := undef) (v11 := undef) (v12 := undef) ⟨(bel0d' 1 : Below w2.heap.size w2 (w2.drewN 1)), (fun h => by cases h), (fun h => by cases h), (fun h => by cases h), (fun h => by cases h), (fun h => by cases h), (fun h => by cases h), (fun h => by cases h), (fun h => by cases h), (fun h => by cases h), (fun h => by cases h), (fun h => by cases h), (fun h => by cases h), (fun h => by cases h), (fun h => by cases h), (fun h => by cases h), (fun h => by cases h), (fun h => by cases h)⟩ (by kernel_rfl)
  rotate_left 1
  · rintro l a V i o ho hl hd ⟨v0, v1, v2, v3, v4, v5, v6, v7, v8, v9, v11, v12, rfl, K⟩
    have hi : i < 13 := (Array.getElem?_eq_some_iff.1 ho).1
    rcases (show i = 0 ∨ i = 1 ∨ i = 2 ∨ i = 3 ∨ i = 4 ∨ i = 5 ∨ i = 6 ∨ i = 7 ∨ i = 8 ∨ i = 9 ∨ i = 10 ∨ i = 11 ∨ i = 12 from by omega) with rfl | rfl | rfl | rfl | rfl | rfl | rfl | rfl | rfl | rfl | rfl | rfl | rfl
    · simp at ho
      subst ho
      have cb := (unhide HPd).below K.bel
      have yy0 : V.cell? ⟨w.heap.size, 0, none⟩ = some (.int .i64 rl) := cb.c 0 (by simp)
      have yy1 : V.cell? ⟨w.heap.size, 1, none⟩ = some (.int .i64 rn) := cb.c 1 (by simp)
      have yy2 : V.cell? ⟨w.heap.size, 2, none⟩ = some (.int .i64 rk) := cb.c 2 (by simp)
      have HK : Hid (AcceptRspec0 w2 rl rn rk wl ws va1 vl1 vc1 ys true (l 1) (l 2) (l 3) (l 4) (l 5) (l 6) (l 7) (l 8) (l 9) (l 10) (l 11) (l 12) (.agg #[.int .i64 rl, .int .i64 rn, .int .i64 rk]) v1 v2 v3 v4 v5 v6 v7 v8 v9 v11 v12 V) := hide ⟨(K.bel), (fun _ => rfl), (K.e1), (K.e2), (K.e3), (K.e4), (K.e5), (K.c5), (K.e6), (K.c6), (K.e7), (K.c7), (K.e8), (K.c8), (K.e9), (K.n10), (K.e11), (K.e12)⟩
      clear K hd hl cb
      go_wp2_with fail
      exact ⟨rfl, AcceptRspec0J.mk (unhide HK) (by kernel_rfl)⟩
    · simp at ho
      subst ho
      have d0 : l 0 = true := hd ⟨0, .data⟩ (by simp) rfl
      have x0 := K.e0 d0
      subst x0
      have HK0 := hide K
      clear K hd hl
      go_wp2_with (go_at_call 25; refine (toReceiver_any _ _ _ _).mono ?_; rintro e V2 ⟨rfl, b2⟩; have K := (unhide HK0).below b2; have HK : Hid (AcceptRspec0 w2 rl rn rk wl ws va1 vl1 vc1 ys (l 0) true (l 2) (l 3) (l 4) (l 5) (l 6) (l 7) (l 8) (l 9) (l 10) (l 11) (l 12) (.agg #[.int .i64 rl, .int .i64 rn, .int .i64 rk]) (.agg #[.int .i64 rl, .int .i64 rn, .int .i64 rk]) v2 v3 v4 v5 v6 v7 v8 v9 v11 v12 V2) := hide ⟨(K.bel), (K.e0), (fun _ => rfl), (K.e2), (K.e3), (K.e4), (K.e5), (K.c5), (K.e6), (K.c6), (K.e7), (K.c7), (K.e8), (K.c8), (K.e9), (K.n10), (K.e11), (K.e12)⟩; clear K b2)
      exact ⟨rfl, AcceptRspec0J.mk (unhide HK) (by kernel_rfl)⟩
    · simp at ho
      subst ho
      have cb := (unhide HPv).below K.bel
      have yy0 : V.cell? ⟨w.heap.size + 1, 0, none⟩ = some (.int .i64 wl) := cb.c 0 (by simp)
      have yy1 : V.cell? ⟨w.heap.size + 1, 1, none⟩ = some (.int .i64 ws) := cb.c 1 (by simp)
      have yy2 : V.cell? ⟨w.heap.size + 1, 2, none⟩ = some (.slice va1 vl1 vc1) := cb.c 2 (by simp)
      have HK : Hid (AcceptRspec0 w2 rl rn rk wl ws va1 vl1 vc1 ys (l 0) (l 1) true (l 3) (l 4) (l 5) (l 6) (l 7) (l 8) (l 9) (l 10) (l 11) (l 12) v0 v1 (.agg #[.int .i64 wl, .int .i64 ws, .slice va1 vl1 vc1]) v3 v4 v5 v6 v7 v8 v9 v11 v12 V) := hide ⟨(K.bel), (K.e0), (K.e1), (fun _ => rfl), (K.e3), (K.e4), (K.e5), (K.c5), (K.e6), (K.c6), (K.e7), (K.c7), (K.e8), (K.c8), (K.e9), (K.n10), (K.e11), (K.e12)⟩
      clear K hd hl cb
      go_wp2_with fail
      exact ⟨rfl, AcceptRspec0J.mk (unhide HK) (by kernel_rfl)⟩
    · simp at ho
      subst ho
      have d2 : l 2 = true := hd ⟨2, .data⟩ (by simp) rfl
      have x2 := K.e2 d2
      subst x2
      have HK0 := hide K
      clear K hd hl
      go_wp2_with (go_at_call 11; refine (toWord16_own _ _ _ _ _ _ _ ((unhide HIv).below (unhide HK0).bel) hv1).mono ?_; rintro e V2 ⟨⟨g2, rfl, oc⟩, b2⟩; have K := (unhide HK0).below b2; have HK : Hid (AcceptRspec0 w2 rl rn rk wl ws va1 vl1 vc1 ys (l 0) (l 1) (l 2) true (l 4) (l 5) (l 6) (l 7) (l 8) (l 9) (l 10) (l 11) (l 12) v0 v1 (.agg #[.int .i64 wl, .int .i64 ws, .slice va1 vl1 vc1]) (.agg #[.int .i64 wl, .int .i64 ws, .slice (some ⟨g2, 0, none⟩) vl1 vl1]) v4 v5 v6 v7 v8 v9 v11 v12 V2) := hide ⟨(K.bel), (K.e0), (K.e1), (K.e2), (fun _ _ => ⟨g2, rfl, oc.mono (unhide HK0).bel.size⟩), (K.e4), (K.e5), (K.c5), (K.e6), (K.c6), (K.e7), (K.c7), (K.e8), (K.c8), (K.e9), (K.n10), (K.e11), (K.e12)⟩; clear K b2)
      exact ⟨rfl, AcceptRspec0J.mk (unhide HK) (by kernel_rfl)⟩
    · simp at ho
      subst ho
      have d1 : l 1 = true := hd ⟨1, .data⟩ (by simp) rfl
      have x1 := K.e1 d1
      subst x1
      have d3 : l 3 = true := hd ⟨3, .data⟩ (by simp) rfl
      obtain ⟨g2, x3, y3⟩ := K.e3 d3 hl
      have Y3 := hide y3
      subst x3
      clear y3
      have HK0 := hide K
      clear K hd hl
      go_wp2_with (go_at_call 27; refine (specAccept_any _ _ _ _ _ _ _ _ _ _ ((unhide Y3).read) ).mono ?_; rintro e V2 ⟨rfl, b2⟩; have K := (unhide HK0).below b2; have HK : Hid (AcceptRspec0 w2 rl rn rk wl ws va1 vl1 vc1 ys (l 0) (l 1) (l 2) (l 3) true (l 5) (l 6) (l 7) (l 8) (l 9) (l 10) (l 11) (l 12) v0 (.agg #[.int .i64 rl, .int .i64 rn, .int .i64 rk]) v2 (.agg #[.int .i64 wl, .int .i64 ws, .slice (some ⟨g2, 0, none⟩) vl1 vl1]) (.tuple #[.agg #[.int .i64 rl, .int .i64 (acN rl rn rk wl ws vl1), .int .i64 rk], .bool (acB rl rn rk wl ws vl1), .int .i64 (acM rl rn rk wl ws vl1)]) v5 v6 v7 v8 v9 v11 v12 V2) := hide ⟨(K.bel), (K.e0), (K.e1), (K.e2), (fun _ h => by cases h), (fun _ => rfl), (K.e5), (fun _ => rfl), (K.e6), (fun _ => rfl), (K.e7), (fun _ => rfl), (K.e8), (fun _ => rfl), (K.e9), (K.n10), (K.e11), (K.e12)⟩; clear K b2)
      exact ⟨rfl, AcceptRspec0J.mk (unhide HK) (by kernel_rfl)⟩
    · simp at ho
      subst ho
      have d4 : l 4 = true := hd ⟨4, .data⟩ (by simp) rfl
      have x4 := K.e4 d4
      subst x4
      have HK : Hid (AcceptRspec0 w2 rl rn rk wl ws va1 vl1 vc1 ys (l 0) (l 1) (l 2) (l 3) (l 4) true (l 6) (l 7) (l 8) (l 9) (l 10) (l 11) (l 12) v0 v1 v2 v3 (.tuple #[.agg #[.int .i64 rl, .int .i64 (acN rl rn rk wl ws vl1), .int .i64 rk], .bool (acB rl rn rk wl ws vl1), .int .i64 (acM rl rn rk wl ws vl1)]) (.tuple #[.agg #[.int .i64 rl, .int .i64 (acN rl rn rk wl ws vl1), .int .i64 rk], .bool (acB rl rn rk wl ws vl1), .int .i64 (acM rl rn rk wl ws vl1)]) v6 v7 v8 v9 v11 v12 V) := hide ⟨(K.bel), (K.e0), (K.e1), (K.e2), (K.e3), (K.e4), (fun _ => rfl), (fun _ => d4), (K.e6), (K.c6), (K.e7), (K.c7), (K.e8), (K.c8), (K.e9), (K.n10), (K.e11), (K.e12)⟩
      clear K hd hl
      go_wp2_with fail
      exact ⟨rfl, AcceptRspec0J.mk (unhide HK) (by kernel_rfl)⟩
    · simp at ho
      subst ho
      have d5 : l 5 = true := hd ⟨5, .data⟩ (by simp) rfl
      have x5 := K.e5 d5
      subst x5
      have HK : Hid (AcceptRspec0 w2 rl rn rk wl ws va1 vl1 vc1 ys (l 0) (l 1) (l 2) (l 3) (l 4) (l 5) true (l 7) (l 8) (l 9) (l 10) (l 11) (l 12) v0 v1 v2 v3 v4 (.tuple #[.agg #[.int .i64 rl, .int .i64 (acN rl rn rk wl ws vl1), .int .i64 rk], .bool (acB rl rn rk wl ws vl1), .int .i64 (acM rl rn rk wl ws vl1)]) (.agg #[.int .i64 rl, .int .i64 (acN rl rn rk wl ws vl1), .int .i64 rk]) v7 v8 v9 v11 v12 V) := hide ⟨(K.bel), (K.e0), (K.e1), (K.e2), (K.e3), (K.e4), (K.e5), (K.c5), (fun _ => rfl), (fun _ => K.c5 d5), (K.e7), (K.c7), (K.e8), (K.c8), (K.e9), (K.n10), (K.e11), (K.e12)⟩
      clear K hd hl
      go_wp2_with fail
      exact ⟨rfl, AcceptRspec0J.mk (unhide HK) (by kernel_rfl)⟩
    · simp at ho
      subst ho
      have d5 : l 5 = true := hd ⟨5, .data⟩ (by simp) rfl
      have x5 := K.e5 d5
      subst x5
      have HK : Hid (AcceptRspec0 w2 rl rn rk wl ws va1 vl1 vc1 ys (l 0) (l 1) (l 2) (l 3) (l 4) (l 5) (l 6) true (l 8) (l 9) (l 10) (l 11) (l 12) v0 v1 v2 v3 v4 (.tuple #[.agg #[.int .i64 rl, .int .i64 (acN rl rn rk wl ws vl1), .int .i64 rk], .bool (acB rl rn rk wl ws vl1), .int .i64 (acM rl rn rk wl ws vl1)]) v6 (.bool (acB rl rn rk wl ws vl1)) v8 v9 v11 v12 V) := hide ⟨(K.bel), (K.e0), (K.e1), (K.e2), (K.e3), (K.e4), (K.e5), (K.c5), (K.e6), (K.c6), (fun _ => rfl), (fun _ => K.c5 d5), (K.e8), (K.c8), (K.e9), (K.n10), (K.e11), (K.e12)⟩
      clear K hd hl
      go_wp2_with fail
      exact ⟨rfl, AcceptRspec0J.mk (unhide HK) (by kernel_rfl)⟩
    · simp at ho
      subst ho
      have d5 : l 5 = true := hd ⟨5, .data⟩ (by simp) rfl
      have x5 := K.e5 d5
      subst x5
      have HK : Hid (AcceptRspec0 w2 rl rn rk wl ws va1 vl1 vc1 ys (l 0) (l 1) (l 2) (l 3) (l 4) (l 5) (l 6) (l 7) true (l 9) (l 10) (l 11) (l 12) v0 v1 v2 v3 v4 (.tuple #[.agg #[.int .i64 rl, .int .i64 (acN rl rn rk wl ws vl1), .int .i64 rk], .bool (acB rl rn rk wl ws vl1), .int .i64 (acM rl rn rk wl ws vl1)]) v6 v7 (.int .i64 (acM rl rn rk wl ws vl1)) v9 v11 v12 V) := hide ⟨(K.bel), (K.e0), (K.e1), (K.e2), (K.e3), (K.e4), (K.e5), (K.c5), (K.e6), (K.c6), (K.e7), (K.c7), (fun _ => rfl), (fun _ => K.c5 d5), (K.e9), (K.n10), (K.e11), (K.e12)⟩
      clear K hd hl
      go_wp2_with fail
      exact ⟨rfl, AcceptRspec0J.mk (unhide HK) (by kernel_rfl)⟩
    · simp at ho
      subst ho
      have nz : l 10 = false := by cases c : l 10; rfl; have := K.n10 c; rw [hl] at this; cases this
      have K2 := K.below (bel1 (Obj.cells #[.int .i64 0, .int .i64 0, .int .i64 0] 43))
      have HK : Hid (AcceptRspec0 w2 rl rn rk wl ws va1 vl1 vc1 ys (l 0) (l 1) (l 2) (l 3) (l 4) (l 5) (l 6) (l 7) (l 8) true (l 10) (l 11) (l 12) v0 v1 v2 v3 v4 v5 v6 v7 v8 (.pointer (some ⟨V.heap.size, 0, none⟩)) v11 v12 (V.alloc (Obj.cells #[.int .i64 0, .int .i64 0, .int .i64 0] 43))) := hide ⟨(K2.bel), (K2.e0), (K2.e1), (K2.e2), (K2.e3), (K2.e4), (K2.e5), (K2.c5), (K2.e6), (K2.c6), (K2.e7), (K2.c7), (K2.e8), (K2.c8), (fun _ => ⟨_, rfl, K.bel.size, by rw [nz]; exact Blk.new _ _⟩), (fun h => by cases nz.symm.trans h), (K2.e11), (K2.e12)⟩
      clear K K2 hd hl nz
      go_wp2_with fail
      exact ⟨rfl, AcceptRspec0J.mk (unhide HK) (by kernel_rfl)⟩
    · simp at ho
      subst ho
      have d9 : l 9 = true := hd ⟨9, .data⟩ (by simp) rfl
      have d6 : l 6 = true := hd ⟨6, .data⟩ (by simp) rfl
      have x6 := K.e6 d6
      subst x6
      obtain ⟨P, x1, x2, x3⟩ := K.e9 d9
      rw [hl] at x3
      have yy0 : V.cell? ⟨P, 0, none⟩ = some (.int .i64 0) := x3.c 0 (by simp)
      have ff0 := x3.f 0 (by simp)
      have yy1 : V.cell? ⟨P, 1, none⟩ = some (.int .i64 0) := x3.c 1 (by simp)
      have ff1 := x3.f 1 (by simp)
      have yy2 : V.cell? ⟨P, 2, none⟩ = some (.int .i64 0) := x3.c 2 (by simp)
      have ff2 := x3.f 2 (by simp)
      have dcall : l 4 = true := K.c6 d6
      have HK : Hid (AcceptRspec0 w2 rl rn rk wl ws va1 vl1 vc1 ys (l 0) (l 1) (l 2) (l 3) (l 4) (l 5) (l 6) (l 7) (l 8) (l 9) true (l 11) (l 12) v0 v1 v2 v3 v4 v5 (.agg #[.int .i64 rl, .int .i64 (acN rl rn rk wl ws vl1), .int .i64 rk]) v7 v8 v9 v11 v12 (((V.setCell ⟨P, 0, none⟩ (.int .i64 rl)).setCell ⟨P, 1, none⟩ (.int .i64 (acN rl rn rk wl ws vl1))).setCell ⟨P, 2, none⟩ (.int .i64 rk))) := hide ⟨((((K.bel.setCell x2 _).setCell x2 _).setCell x2 _)), (K.e0), (K.e1), (K.e2), (fun _ h => by have := dcall.symm.trans h; cases this), (K.e4), (K.e5), (K.c5), (K.e6), (K.c6), (K.e7), (K.c7), (K.e8), (K.c8), (fun _ => ⟨P, x1, x2, (((x3.set 0 (by simp) _).set 1 (by simp) _).set 2 (by simp) _)⟩), (fun _ => d9), (K.e11), (K.e12)⟩
      clear K hd hl x3
      subst x1
      go_wp2_with fail
      exact ⟨rfl, AcceptRspec0J.mk (unhide HK) (by kernel_rfl)⟩
    · simp at ho
      subst ho
      have d7 : l 7 = true := hd ⟨7, .data⟩ (by simp) rfl
      have x7 := K.e7 d7
      subst x7
      have HK : Hid (AcceptRspec0 w2 rl rn rk wl ws va1 vl1 vc1 ys (l 0) (l 1) (l 2) (l 3) (l 4) (l 5) (l 6) (l 7) (l 8) (l 9) (l 10) true (l 12) v0 v1 v2 v3 v4 v5 v6 (.bool (acB rl rn rk wl ws vl1)) v8 v9 (.bool (acB rl rn rk wl ws vl1)) v12 V) := hide ⟨(K.bel), (K.e0), (K.e1), (K.e2), (K.e3), (K.e4), (K.e5), (K.c5), (K.e6), (K.c6), (K.e7), (K.c7), (K.e8), (K.c8), (K.e9), (K.n10), (fun _ => rfl), (K.e12)⟩
      clear K hd hl
      go_wp2_with fail
      exact ⟨rfl, AcceptRspec0J.mk (unhide HK) (by kernel_rfl)⟩
    · simp at ho
      subst ho
      have d8 : l 8 = true := hd ⟨8, .data⟩ (by simp) rfl
      have x8 := K.e8 d8
      subst x8
      have HK : Hid (AcceptRspec0 w2 rl rn rk wl ws va1 vl1 vc1 ys (l 0) (l 1) (l 2) (l 3) (l 4) (l 5) (l 6) (l 7) (l 8) (l 9) (l 10) (l 11) true v0 v1 v2 v3 v4 v5 v6 v7 (.int .i64 (acM rl rn rk wl ws vl1)) v9 v11 (.int .i64 (acM rl rn rk wl ws vl1)) V) := hide ⟨(K.bel), (K.e0), (K.e1), (K.e2), (K.e3), (K.e4), (K.e5), (K.c5), (K.e6), (K.c6), (K.e7), (K.c7), (K.e8), (K.c8), (K.e9), (K.n10), (K.e11), (fun _ => rfl)⟩
      clear K hd hl
      go_wp2_with fail
      exact ⟨rfl, AcceptRspec0J.mk (unhide HK) (by kernel_rfl)⟩
  rintro l a w3 hall ⟨v0, v1, v2, v3, v4, v5, v6, v7, v8, v9, v11, v12, rfl, K⟩
  have b := K.bel
  obtain ⟨X3, x1, x2, x3⟩ := K.e9 (hall 9 (by decide))
  rw [hall 10 (by decide)] at x3
  subst x1
  have hSX3 := x3.lt
  have JX3 := hide x3
  have IX3 := hide x2
  clear x3 x2
  have x11 := K.e11 (hall 11 (by decide))
  subst x11
  have x12 := K.e12 (hall 12 (by decide))
  subst x12
  clear K hall
  have S2 : Hid (w2.heap.size ≤ w3.heap.size) := hide b.size
  have K : Hid (Below w.heap.size w w3 ∧ Blk w3 w.heap.size [.int .i64 rl, .int .i64 rn, .int .i64 rk] ∧ Blk w3 (w.heap.size + 1) [.int .i64 wl, .int .i64 ws, .slice va1 vl1 vc1]) := hide ((unhide KEPT) _ _ (unhide K) b)
  clear b
  have S3 : Hid (w2.heap.size ≤ X3) := hide (unhide IX3)
  have S4 : Hid (X3 + 1 ≤ w3.heap.size) := hide (by have := hSX3; omega)
  have K : Hid (Below w.heap.size w w3 ∧ Blk w3 w.heap.size [.int .i64 rl, .int .i64 rn, .int .i64 rk] ∧ Blk w3 (w.heap.size + 1) [.int .i64 wl, .int .i64 ws, .slice va1 vl1 vc1] ∧ Blk w3 X3 [.int .i64 rl, .int .i64 (acN rl rn rk wl ws vl1), .int .i64 rk]) := hide ⟨(unhide K).1, (unhide K).2.1, (unhide K).2.2, (unhide JX3)⟩
  clear KEPT JX3 hSX3
  have KEPT : Hid (∀ W u3, (Below w.heap.size w W ∧ Blk W w.heap.size [.int .i64 rl, .int .i64 rn, .int .i64 rk] ∧ Blk W (w.heap.size + 1) [.int .i64 wl, .int .i64 ws, .slice va1 vl1 vc1] ∧ Blk W X3 [.int .i64 rl, .int .i64 (acN rl rn rk wl ws vl1), .int .i64 rk]) → Below W.heap.size W u3 → (Below w.heap.size w u3 ∧ Blk u3 w.heap.size [.int .i64 rl, .int .i64 rn, .int .i64 rk] ∧ Blk u3 (w.heap.size + 1) [.int .i64 wl, .int .i64 ws, .slice va1 vl1 vc1] ∧ Blk u3 X3 [.int .i64 rl, .int .i64 (acN rl rn rk wl ws vl1), .int .i64 rk])) := hide (fun W u3 h b => ⟨h.1.trans (b.mono h.1.size), h.2.1.below b, h.2.2.1.below b, h.2.2.2.below b⟩)
  have mPd0 : w3.cell? ⟨w.heap.size, 0, none⟩ = some (.int .i64 rl) := (unhide K).2.1.c 0 (by simp)
  have mPd1 : w3.cell? ⟨w.heap.size, 1, none⟩ = some (.int .i64 rn) := (unhide K).2.1.c 1 (by simp)
  have mPd2 : w3.cell? ⟨w.heap.size, 2, none⟩ = some (.int .i64 rk) := (unhide K).2.1.c 2 (by simp)
  have mPv0 : w3.cell? ⟨w.heap.size + 1, 0, none⟩ = some (.int .i64 wl) := (unhide K).2.2.1.c 0 (by simp)
  have mPv1 : w3.cell? ⟨w.heap.size + 1, 1, none⟩ = some (.int .i64 ws) := (unhide K).2.2.1.c 1 (by simp)
  have mPv2 : w3.cell? ⟨w.heap.size + 1, 2, none⟩ = some (.slice va1 vl1 vc1) := (unhide K).2.2.1.c 2 (by simp)
  have mQWp00 : w3.cell? ⟨X3, 0, none⟩ = some (.int .i64 rl) := (unhide K).2.2.2.c 0 (by simp)
  have mQWp01 : w3.cell? ⟨X3, 1, none⟩ = some (.int .i64 (acN rl rn rk wl ws vl1)) := (unhide K).2.2.2.c 1 (by simp)
  have mQWp02 : w3.cell? ⟨X3, 2, none⟩ = some (.int .i64 rk) := (unhide K).2.2.2.c 2 (by simp)
  go_wp2_with fail
  clear mPd0 mPd1 mPd2 mPv0 mPv1 mPv2 mQWp00 mQWp01 mQWp02
  refine (toWord16_own _ _ _ _ _ _ _ ((unhide Rv).below (unhide K).1) hv1).mono ?_
  rintro x w4 ⟨⟨g4, rfl, oc⟩, b⟩
  have LXx1 : Hid (WdLies w3.heap.size w4.heap.size (some ⟨g4, 0, none⟩) vl1 vl1) := hide oc.lies
  have S5 : Hid (w3.heap.size ≤ w4.heap.size) := hide b.size
  have K : Hid (Below w.heap.size w w4 ∧ Blk w4 w.heap.size [.int .i64 rl, .int .i64 rn, .int .i64 rk] ∧ Blk w4 (w.heap.size + 1) [.int .i64 wl, .int .i64 ws, .slice va1 vl1 vc1] ∧ Blk w4 X3 [.int .i64 rl, .int .i64 (acN rl rn rk wl ws vl1), .int .i64 rk]) := hide ((unhide KEPT) _ _ (unhide K) b)
  have K : Hid (Below w.heap.size w w4 ∧ Blk w4 w.heap.size [.int .i64 rl, .int .i64 rn, .int .i64 rk] ∧ Blk w4 (w.heap.size + 1) [.int .i64 wl, .int .i64 ws, .slice va1 vl1 vc1] ∧ Blk w4 X3 [.int .i64 rl, .int .i64 (acN rl rn rk wl ws vl1), .int .i64 rk] ∧ WdOwn w4 w3.heap.size (some ⟨g4, 0, none⟩) vl1 vl1 ys) := hide ⟨(unhide K).1, (unhide K).2.1, (unhide K).2.2.1, (unhide K).2.2.2, oc⟩
  clear KEPT oc b
  have KEPT : Hid (∀ W u3, (Below w.heap.size w W ∧ Blk W w.heap.size [.int .i64 rl, .int .i64 rn, .int .i64 rk] ∧ Blk W (w.heap.size + 1) [.int .i64 wl, .int .i64 ws, .slice va1 vl1 vc1] ∧ Blk W X3 [.int .i64 rl, .int .i64 (acN rl rn rk wl ws vl1), .int .i64 rk] ∧ WdOwn W w3.heap.size (some ⟨g4, 0, none⟩) vl1 vl1 ys) → Below W.heap.size W u3 → (Below w.heap.size w u3 ∧ Blk u3 w.heap.size [.int .i64 rl, .int .i64 rn, .int .i64 rk] ∧ Blk u3 (w.heap.size + 1) [.int .i64 wl, .int .i64 ws, .slice va1 vl1 vc1] ∧ Blk u3 X3 [.int .i64 rl, .int .i64 (acN rl rn rk wl ws vl1), .int .i64 rk] ∧ WdOwn u3 w3.heap.size (some ⟨g4, 0, none⟩) vl1 vl1 ys)) := hide (fun W u3 h b => ⟨h.1.trans (b.mono h.1.size), h.2.1.below b, h.2.2.1.below b, h.2.2.2.1.below b, h.2.2.2.2.below b⟩)
  obtain ⟨w5, hw5⟩ : ∃ V, V = w4.alloc (Obj.cells #[.int .i64 wl, .int .i64 ws, .slice (some ⟨g4, 0, none⟩) vl1 vl1] 27) := ⟨_, rfl⟩
  have b : Below w4.heap.size w4 w5 := by rw [hw5]; exact bel1 _
  have kx : Blk w5 w4.heap.size [.int .i64 wl, .int .i64 ws, .slice (some ⟨g4, 0, none⟩) vl1 vl1] := by rw [hw5]; exact Blk.new _ _
  have S6 : Hid (w4.heap.size + 1 ≤ w5.heap.size) := hide (by rw [hw5]; simp)
  have S7 : Hid (w4.heap.size ≤ w5.heap.size) := hide b.size
  have K : Hid (Below w.heap.size w w5 ∧ Blk w5 w.heap.size [.int .i64 rl, .int .i64 rn, .int .i64 rk] ∧ Blk w5 (w.heap.size + 1) [.int .i64 wl, .int .i64 ws, .slice va1 vl1 vc1] ∧ Blk w5 X3 [.int .i64 rl, .int .i64 (acN rl rn rk wl ws vl1), .int .i64 rk] ∧ WdOwn w5 w3.heap.size (some ⟨g4, 0, none⟩) vl1 vl1 ys) := hide ((unhide KEPT) _ _ (unhide K) b)
  have mPd0 : w5.cell? ⟨w.heap.size, 0, none⟩ = some (.int .i64 rl) := (unhide K).2.1.c 0 (by simp)
  have mPd1 : w5.cell? ⟨w.heap.size, 1, none⟩ = some (.int .i64 rn) := (unhide K).2.1.c 1 (by simp)
  have mPd2 : w5.cell? ⟨w.heap.size, 2, none⟩ = some (.int .i64 rk) := (unhide K).2.1.c 2 (by simp)
  have mPv0 : w5.cell? ⟨w.heap.size + 1, 0, none⟩ = some (.int .i64 wl) := (unhide K).2.2.1.c 0 (by simp)
  have mPv1 : w5.cell? ⟨w.heap.size + 1, 1, none⟩ = some (.int .i64 ws) := (unhide K).2.2.1.c 1 (by simp)
  have mPv2 : w5.cell? ⟨w.heap.size + 1, 2, none⟩ = some (.slice va1 vl1 vc1) := (unhide K).2.2.1.c 2 (by simp)
  have mQWp00 : w5.cell? ⟨X3, 0, none⟩ = some (.int .i64 rl) := (unhide K).2.2.2.1.c 0 (by simp)
  have mQWp01 : w5.cell? ⟨X3, 1, none⟩ = some (.int .i64 (acN rl rn rk wl ws vl1)) := (unhide K).2.2.2.1.c 1 (by simp)
  have mQWp02 : w5.cell? ⟨X3, 2, none⟩ = some (.int .i64 rk) := (unhide K).2.2.2.1.c 2 (by simp)
  rw [hw5] at mPd0 mPd1 mPd2 mPv0 mPv1 mPv2 mQWp00 mQWp01 mQWp02
  obtain ⟨X5, hX5⟩ : ∃ X, w4.heap.size = X := ⟨_, rfl⟩
  rw [hX5] at kx
  have S8 : Hid (w4.heap.size = X5) := hide hX5
  have K : Hid (Below w.heap.size w w5 ∧ Blk w5 w.heap.size [.int .i64 rl, .int .i64 rn, .int .i64 rk] ∧ Blk w5 (w.heap.size + 1) [.int .i64 wl, .int .i64 ws, .slice va1 vl1 vc1] ∧ Blk w5 X3 [.int .i64 rl, .int .i64 (acN rl rn rk wl ws vl1), .int .i64 rk] ∧ WdOwn w5 w3.heap.size (some ⟨g4, 0, none⟩) vl1 vl1 ys ∧ Blk w5 X5 [.int .i64 wl, .int .i64 ws, .slice (some ⟨g4, 0, none⟩) vl1 vl1]) := hide ⟨(unhide K).1, (unhide K).2.1, (unhide K).2.2.1, (unhide K).2.2.2.1, (unhide K).2.2.2.2, kx⟩
  clear KEPT b kx
  have KEPT : Hid (∀ W u3, (Below w.heap.size w W ∧ Blk W w.heap.size [.int .i64 rl, .int .i64 rn, .int .i64 rk] ∧ Blk W (w.heap.size + 1) [.int .i64 wl, .int .i64 ws, .slice va1 vl1 vc1] ∧ Blk W X3 [.int .i64 rl, .int .i64 (acN rl rn rk wl ws vl1), .int .i64 rk] ∧ WdOwn W w3.heap.size (some ⟨g4, 0, none⟩) vl1 vl1 ys ∧ Blk W X5 [.int .i64 wl, .int .i64 ws, .slice (some ⟨g4, 0, none⟩) vl1 vl1]) → Below W.heap.size W u3 → (Below w.heap.size w u3 ∧ Blk u3 w.heap.size [.int .i64 rl, .int .i64 rn, .int .i64 rk] ∧ Blk u3 (w.heap.size + 1) [.int .i64 wl, .int .i64 ws, .slice va1 vl1 vc1] ∧ Blk u3 X3 [.int .i64 rl, .int .i64 (acN rl rn rk wl ws vl1), .int .i64 rk] ∧ WdOwn u3 w3.heap.size (some ⟨g4, 0, none⟩) vl1 vl1 ys ∧ Blk u3 X5 [.int .i64 wl, .int .i64 ws, .slice (some ⟨g4, 0, none⟩) vl1 vl1])) := hide (fun W u3 h b => ⟨h.1.trans (b.mono h.1.size), h.2.1.below b, h.2.2.1.below b, h.2.2.2.1.below b, h.2.2.2.2.1.below b, h.2.2.2.2.2.below b⟩)
  have Hw5 := hide hw5
  have HX5 := hide hX5
  clear hw5 hX5
  go_wp2_with fail
  try rw [← unhide Hw5]
  try rw [unhide HX5]
  clear Hw5 HX5 mPd0 mPd1 mPd2 mPv0 mPv1 mPv2 mQWp00 mQWp01 mQWp02
  have HPd := hide (unhide K).2.1
  have HPQXx1 := hide (unhide K).2.2.2.2.2
  have HIQXx1 := hide (unhide K).2.2.2.2.1.read
  refine wp_region_flagsA (by kernel_rfl) (by kernel_rfl) (AcceptRimpl1J w5 rl rn rk wl ws vl1 g4) ?_ ?_ ?_
  · exact AcceptRimpl1J.mk (v0 := undef) (v1 := undef) (v2 := undef) (v3 := undef) (v4 := undef) (v5 := undef) (v6 := undef) (v7 := undef) (v8 := undef) (v10 := undef) (v11 := undef) ⟨(bel0d' 1 : Below w5.heap.size w5 (w5.drewN 1)), (fun h => by cases h), (fun h => by cases h), (fun h => by cases h), (fun h => by cases h), (fun h => by cases h), (fun h => by cases h), (fun h => by cases h), (fun h => by cases h), (fun h => by cases h), (fun h => by cases h), (fun h => by cases h), (fun h => by cases h), (fun h => by cases h), (fun h => by cases h), (fun h => by cases h), (fun h => by cases h)⟩ (by kernel_rfl)
  rotate_left 1
  · rintro l a V i o ho hl hd ⟨v0, v1, v2, v3, v4, v5, v6, v7, v8, v10, v11, rfl, K⟩
    have hi : i < 12 := (Array.getElem?_eq_some_iff.1 ho).1
    rcases (show i = 0 ∨ i = 1 ∨ i = 2 ∨ i = 3 ∨ i = 4 ∨ i = 5 ∨ i = 6 ∨ i = 7 ∨ i = 8 ∨ i = 9 ∨ i = 10 ∨ i = 11 from by omega) with rfl | rfl | rfl | rfl | rfl | rfl | rfl | rfl | rfl | rfl | rfl | rfl
    · simp at ho
      subst ho
      have cb := (unhide HPd).below K.bel
      have yy0 : V.cell? ⟨w.heap.size, 0, none⟩ = some (.int .i64 rl) := cb.c 0 (by simp)
      have yy1 : V.cell? ⟨w.heap.size, 1, none⟩ = some (.int .i64 rn) := cb.c 1 (by simp)
      have yy2 : V.cell? ⟨w.heap.size, 2, none⟩ = some (.int .i64 rk) := cb.c 2 (by simp)
      have HK : Hid (AcceptRimpl1 w5 rl rn rk wl ws vl1 g4 true (l 1) (l 2) (l 3) (l 4) (l 5) (l 6) (l 7) (l 8) (l 9) (l 10) (l 11) (.agg #[.int .i64 rl, .int .i64 rn, .int .i64 rk]) v1 v2 v3 v4 v5 v6 v7 v8 v10 v11 V) := hide ⟨(K.bel), (fun _ => rfl), (K.e1), (K.e2), (K.e3), (K.e4), (K.c4), (K.e5), (K.c5), (K.e6), (K.c6), (K.e7), (K.c7), (K.e8), (K.n9), (K.e10), (K.e11)⟩
      clear K hd hl cb
      go_wp2_with fail
      exact ⟨rfl, AcceptRimpl1J.mk (unhide HK) (by kernel_rfl)⟩
    · simp at ho
      subst ho
      have d0 : l 0 = true := hd ⟨0, .data⟩ (by simp) rfl
      have x0 := K.e0 d0
      subst x0
      have HK0 := hide K
      clear K hd hl
      go_wp2_with (go_at_call 25; refine (toReceiver_any _ _ _ _).mono ?_; rintro e V2 ⟨rfl, b2⟩; have K := (unhide HK0).below b2; have HK : Hid (AcceptRimpl1 w5 rl rn rk wl ws vl1 g4 (l 0) true (l 2) (l 3) (l 4) (l 5) (l 6) (l 7) (l 8) (l 9) (l 10) (l 11) (.agg #[.int .i64 rl, .int .i64 rn, .int .i64 rk]) (.agg #[.int .i64 rl, .int .i64 rn, .int .i64 rk]) v2 v3 v4 v5 v6 v7 v8 v10 v11 V2) := hide ⟨(K.bel), (K.e0), (fun _ => rfl), (K.e2), (K.e3), (K.e4), (K.c4), (K.e5), (K.c5), (K.e6), (K.c6), (K.e7), (K.c7), (K.e8), (K.n9), (K.e10), (K.e11)⟩; clear K b2)
      exact ⟨rfl, AcceptRimpl1J.mk (unhide HK) (by kernel_rfl)⟩
    · simp at ho
      subst ho
      have cb := (unhide HPQXx1).below K.bel
      have yy0 : V.cell? ⟨X5, 0, none⟩ = some (.int .i64 wl) := cb.c 0 (by simp)
      have yy1 : V.cell? ⟨X5, 1, none⟩ = some (.int .i64 ws) := cb.c 1 (by simp)
      have yy2 : V.cell? ⟨X5, 2, none⟩ = some (.slice (some ⟨g4, 0, none⟩) vl1 vl1) := cb.c 2 (by simp)
      have HK : Hid (AcceptRimpl1 w5 rl rn rk wl ws vl1 g4 (l 0) (l 1) true (l 3) (l 4) (l 5) (l 6) (l 7) (l 8) (l 9) (l 10) (l 11) v0 v1 (.agg #[.int .i64 wl, .int .i64 ws, .slice (some ⟨g4, 0, none⟩) vl1 vl1]) v3 v4 v5 v6 v7 v8 v10 v11 V) := hide ⟨(K.bel), (K.e0), (K.e1), (fun _ => rfl), (K.e3), (K.e4), (K.c4), (K.e5), (K.c5), (K.e6), (K.c6), (K.e7), (K.c7), (K.e8), (K.n9), (K.e10), (K.e11)⟩
      clear K hd hl cb
      go_wp2_with fail
      exact ⟨rfl, AcceptRimpl1J.mk (unhide HK) (by kernel_rfl)⟩
    · simp at ho
      subst ho
      have d1 : l 1 = true := hd ⟨1, .data⟩ (by simp) rfl
      have x1 := K.e1 d1
      subst x1
      have d2 : l 2 = true := hd ⟨2, .data⟩ (by simp) rfl
      have x2 := K.e2 d2
      subst x2
      have HK0 := hide K
      clear K hd hl
      go_wp2_with (go_at_call 28; refine (implAccept_any _ _ _ _ _ _ _ _ _ _ ((unhide HIQXx1).below (unhide HK0).bel) ).mono ?_; rintro e V2 ⟨rfl, b2⟩; have K := (unhide HK0).below b2; have HK : Hid (AcceptRimpl1 w5 rl rn rk wl ws vl1 g4 (l 0) (l 1) (l 2) true (l 4) (l 5) (l 6) (l 7) (l 8) (l 9) (l 10) (l 11) v0 (.agg #[.int .i64 rl, .int .i64 rn, .int .i64 rk]) (.agg #[.int .i64 wl, .int .i64 ws, .slice (some ⟨g4, 0, none⟩) vl1 vl1]) (.tuple #[.agg #[.int .i64 rl, .int .i64 (acN rl rn rk wl ws vl1), .int .i64 rk], .bool (acB rl rn rk wl ws vl1), .int .i64 (acM rl rn rk wl ws vl1)]) v4 v5 v6 v7 v8 v10 v11 V2) := hide ⟨(K.bel), (K.e0), (K.e1), (K.e2), (fun _ => rfl), (K.e4), (fun _ => rfl), (K.e5), (fun _ => rfl), (K.e6), (fun _ => rfl), (K.e7), (fun _ => rfl), (K.e8), (K.n9), (K.e10), (K.e11)⟩; clear K b2)
      exact ⟨rfl, AcceptRimpl1J.mk (unhide HK) (by kernel_rfl)⟩
    · simp at ho
      subst ho
      have d3 : l 3 = true := hd ⟨3, .data⟩ (by simp) rfl
      have x3 := K.e3 d3
      subst x3
      have HK : Hid (AcceptRimpl1 w5 rl rn rk wl ws vl1 g4 (l 0) (l 1) (l 2) (l 3) true (l 5) (l 6) (l 7) (l 8) (l 9) (l 10) (l 11) v0 v1 v2 (.tuple #[.agg #[.int .i64 rl, .int .i64 (acN rl rn rk wl ws vl1), .int .i64 rk], .bool (acB rl rn rk wl ws vl1), .int .i64 (acM rl rn rk wl ws vl1)]) (.tuple #[.agg #[.int .i64 rl, .int .i64 (acN rl rn rk wl ws vl1), .int .i64 rk], .bool (acB rl rn rk wl ws vl1), .int .i64 (acM rl rn rk wl ws vl1)]) v5 v6 v7 v8 v10 v11 V) := hide ⟨(K.bel), (K.e0), (K.e1), (K.e2), (K.e3), (fun _ => rfl), (fun _ => d3), (K.e5), (K.c5), (K.e6), (K.c6), (K.e7), (K.c7), (K.e8), (K.n9), (K.e10), (K.e11)⟩
      clear K hd hl
      go_wp2_with fail
      exact ⟨rfl, AcceptRimpl1J.mk (unhide HK) (by kernel_rfl)⟩
    · simp at ho
      subst ho
      have d4 : l 4 = true := hd ⟨4, .data⟩ (by simp) rfl
      have x4 := K.e4 d4
      subst x4
      have HK : Hid (AcceptRimpl1 w5 rl rn rk wl ws vl1 g4 (l 0) (l 1) (l 2) (l 3) (l 4) true (l 6) (l 7) (l 8) (l 9) (l 10) (l 11) v0 v1 v2 v3 (.tuple #[.agg #[.int .i64 rl, .int .i64 (acN rl rn rk wl ws vl1), .int .i64 rk], .bool (acB rl rn rk wl ws vl1), .int .i64 (acM rl rn rk wl ws vl1)]) (.agg #[.int .i64 rl, .int .i64 (acN rl rn rk wl ws vl1), .int .i64 rk]) v6 v7 v8 v10 v11 V) := hide ⟨(K.bel), (K.e0), (K.e1), (K.e2), (K.e3), (K.e4), (K.c4), (fun _ => rfl), (fun _ => K.c4 d4), (K.e6), (K.c6), (K.e7), (K.c7), (K.e8), (K.n9), (K.e10), (K.e11)⟩
      clear K hd hl
      go_wp2_with fail
      exact ⟨rfl, AcceptRimpl1J.mk (unhide HK) (by kernel_rfl)⟩
    · simp at ho
      subst ho
      have d4 : l 4 = true := hd ⟨4, .data⟩ (by simp) rfl
      have x4 := K.e4 d4
      subst x4
      have HK : Hid (AcceptRimpl1 w5 rl rn rk wl ws vl1 g4 (l 0) (l 1) (l 2) (l 3) (l 4) (l 5) true (l 7) (l 8) (l 9) (l 10) (l 11) v0 v1 v2 v3 (.tuple #[.agg #[.int .i64 rl, .int .i64 (acN rl rn rk wl ws vl1), .int .i64 rk], .bool (acB rl rn rk wl ws vl1), .int .i64 (acM rl rn rk wl ws vl1)]) v5 (.bool (acB rl rn rk wl ws vl1)) v7 v8 v10 v11 V) := hide ⟨(K.bel), (K.e0), (K.e1), (K.e2), (K.e3), (K.e4), (K.c4), (K.e5), (K.c5), (fun _ => rfl), (fun _ => K.c4 d4), (K.e7), (K.c7), (K.e8), (K.n9), (K.e10), (K.e11)⟩
      clear K hd hl
      go_wp2_with fail
      exact ⟨rfl, AcceptRimpl1J.mk (unhide HK) (by kernel_rfl)⟩
    · simp at ho
      subst ho
      have d4 : l 4 = true := hd ⟨4, .data⟩ (by simp) rfl
      have x4 := K.e4 d4
      subst x4
      have HK : Hid (AcceptRimpl1 w5 rl rn rk wl ws vl1 g4 (l 0) (l 1) (l 2) (l 3) (l 4) (l 5) (l 6) true (l 8) (l 9) (l 10) (l 11) v0 v1 v2 v3 (.tuple #[.agg #[.int .i64 rl, .int .i64 (acN rl rn rk wl ws vl1), .int .i64 rk], .bool (acB rl rn rk wl ws vl1), .int .i64 (acM rl rn rk wl ws vl1)]) v5 v6 (.int .i64 (acM rl rn rk wl ws vl1)) v8 v10 v11 V) := hide ⟨(K.bel), (K.e0), (K.e1), (K.e2), (K.e3), (K.e4), (K.c4), (K.e5), (K.c5), (K.e6), (K.c6), (fun _ => rfl), (fun _ => K.c4 d4), (K.e8), (K.n9), (K.e10), (K.e11)⟩
      clear K hd hl
      go_wp2_with fail
      exact ⟨rfl, AcceptRimpl1J.mk (unhide HK) (by kernel_rfl)⟩
    · simp at ho
      subst ho
      have nz : l 9 = false := by cases c : l 9; rfl; have := K.n9 c; rw [hl] at this; cases this
      have K2 := K.below (bel1 (Obj.cells #[.int .i64 0, .int .i64 0, .int .i64 0] 43))
      have HK : Hid (AcceptRimpl1 w5 rl rn rk wl ws vl1 g4 (l 0) (l 1) (l 2) (l 3) (l 4) (l 5) (l 6) (l 7) true (l 9) (l 10) (l 11) v0 v1 v2 v3 v4 v5 v6 v7 (.pointer (some ⟨V.heap.size, 0, none⟩)) v10 v11 (V.alloc (Obj.cells #[.int .i64 0, .int .i64 0, .int .i64 0] 43))) := hide ⟨(K2.bel), (K2.e0), (K2.e1), (K2.e2), (K2.e3), (K2.e4), (K2.c4), (K2.e5), (K2.c5), (K2.e6), (K2.c6), (K2.e7), (K2.c7), (fun _ => ⟨_, rfl, K.bel.size, by rw [nz]; exact Blk.new _ _⟩), (fun h => by cases nz.symm.trans h), (K2.e10), (K2.e11)⟩
      clear K K2 hd hl nz
      go_wp2_with fail
      exact ⟨rfl, AcceptRimpl1J.mk (unhide HK) (by kernel_rfl)⟩
    · simp at ho
      subst ho
      have d8 : l 8 = true := hd ⟨8, .data⟩ (by simp) rfl
      have d5 : l 5 = true := hd ⟨5, .data⟩ (by simp) rfl
      have x5 := K.e5 d5
      subst x5
      obtain ⟨P, x1, x2, x3⟩ := K.e8 d8
      rw [hl] at x3
      have yy0 : V.cell? ⟨P, 0, none⟩ = some (.int .i64 0) := x3.c 0 (by simp)
      have ff0 := x3.f 0 (by simp)
      have yy1 : V.cell? ⟨P, 1, none⟩ = some (.int .i64 0) := x3.c 1 (by simp)
      have ff1 := x3.f 1 (by simp)
      have yy2 : V.cell? ⟨P, 2, none⟩ = some (.int .i64 0) := x3.c 2 (by simp)
      have ff2 := x3.f 2 (by simp)
      skip
      have HK : Hid (AcceptRimpl1 w5 rl rn rk wl ws vl1 g4 (l 0) (l 1) (l 2) (l 3) (l 4) (l 5) (l 6) (l 7) (l 8) true (l 10) (l 11) v0 v1 v2 v3 v4 (.agg #[.int .i64 rl, .int .i64 (acN rl rn rk wl ws vl1), .int .i64 rk]) v6 v7 v8 v10 v11 (((V.setCell ⟨P, 0, none⟩ (.int .i64 rl)).setCell ⟨P, 1, none⟩ (.int .i64 (acN rl rn rk wl ws vl1))).setCell ⟨P, 2, none⟩ (.int .i64 rk))) := hide ⟨((((K.bel.setCell x2 _).setCell x2 _).setCell x2 _)), (K.e0), (K.e1), (K.e2), (K.e3), (K.e4), (K.c4), (K.e5), (K.c5), (K.e6), (K.c6), (K.e7), (K.c7), (fun _ => ⟨P, x1, x2, (((x3.set 0 (by simp) _).set 1 (by simp) _).set 2 (by simp) _)⟩), (fun _ => d8), (K.e10), (K.e11)⟩
      clear K hd hl x3
      subst x1
      go_wp2_with fail
      exact ⟨rfl, AcceptRimpl1J.mk (unhide HK) (by kernel_rfl)⟩
    · simp at ho
      subst ho
      have d6 : l 6 = true := hd ⟨6, .data⟩ (by simp) rfl
      have x6 := K.e6 d6
      subst x6
      have HK : Hid (AcceptRimpl1 w5 rl rn rk wl ws vl1 g4 (l 0) (l 1) (l 2) (l 3) (l 4) (l 5) (l 6) (l 7) (l 8) (l 9) true (l 11) v0 v1 v2 v3 v4 v5 (.bool (acB rl rn rk wl ws vl1)) v7 v8 (.bool (acB rl rn rk wl ws vl1)) v11 V) := hide ⟨(K.bel), (K.e0), (K.e1), (K.e2), (K.e3), (K.e4), (K.c4), (K.e5), (K.c5), (K.e6), (K.c6), (K.e7), (K.c7), (K.e8), (K.n9), (fun _ => rfl), (K.e11)⟩
      clear K hd hl
      go_wp2_with fail
      exact ⟨rfl, AcceptRimpl1J.mk (unhide HK) (by kernel_rfl)⟩
    · simp at ho
      subst ho
      have d7 : l 7 = true := hd ⟨7, .data⟩ (by simp) rfl
      have x7 := K.e7 d7
      subst x7
      have HK : Hid (AcceptRimpl1 w5 rl rn rk wl ws vl1 g4 (l 0) (l 1) (l 2) (l 3) (l 4) (l 5) (l 6) (l 7) (l 8) (l 9) (l 10) true v0 v1 v2 v3 v4 v5 v6 (.int .i64 (acM rl rn rk wl ws vl1)) v8 v10 (.int .i64 (acM rl rn rk wl ws vl1)) V) := hide ⟨(K.bel), (K.e0), (K.e1), (K.e2), (K.e3), (K.e4), (K.c4), (K.e5), (K.c5), (K.e6), (K.c6), (K.e7), (K.c7), (K.e8), (K.n9), (K.e10), (fun _ => rfl)⟩
      clear K hd hl
      go_wp2_with fail
      exact ⟨rfl, AcceptRimpl1J.mk (unhide HK) (by kernel_rfl)⟩
  rintro l a w6 hall ⟨v0, v1, v2, v3, v4, v5, v6, v7, v8, v10, v11, rfl, K⟩
  have b := K.bel
  obtain ⟨X6, x1, x2, x3⟩ := K.e8 (hall 8 (by decide))
  rw [hall 9 (by decide)] at x3
  subst x1
  have hSX6 := x3.lt
  have JX6 := hide x3
  have IX6 := hide x2
  clear x3 x2
  have x10 := K.e10 (hall 10 (by decide))
  subst x10
  have x11 := K.e11 (hall 11 (by decide))
  subst x11
  clear K hall
  have S9 : Hid (w5.heap.size ≤ w6.heap.size) := hide b.size
  have K : Hid (Below w.heap.size w w6 ∧ Blk w6 w.heap.size [.int .i64 rl, .int .i64 rn, .int .i64 rk] ∧ Blk w6 (w.heap.size + 1) [.int .i64 wl, .int .i64 ws, .slice va1 vl1 vc1] ∧ Blk w6 X3 [.int .i64 rl, .int .i64 (acN rl rn rk wl ws vl1), .int .i64 rk] ∧ WdOwn w6 w3.heap.size (some ⟨g4, 0, none⟩) vl1 vl1 ys ∧ Blk w6 X5 [.int .i64 wl, .int .i64 ws, .slice (some ⟨g4, 0, none⟩) vl1 vl1]) := hide ((unhide KEPT) _ _ (unhide K) b)
  clear b
  have S10 : Hid (w5.heap.size ≤ X6) := hide (unhide IX6)
  have S11 : Hid (X6 + 1 ≤ w6.heap.size) := hide (by have := hSX6; omega)
  have K : Hid (Below w.heap.size w w6 ∧ Blk w6 w.heap.size [.int .i64 rl, .int .i64 rn, .int .i64 rk] ∧ Blk w6 (w.heap.size + 1) [.int .i64 wl, .int .i64 ws, .slice va1 vl1 vc1] ∧ Blk w6 X3 [.int .i64 rl, .int .i64 (acN rl rn rk wl ws vl1), .int .i64 rk] ∧ WdOwn w6 w3.heap.size (some ⟨g4, 0, none⟩) vl1 vl1 ys ∧ Blk w6 X5 [.int .i64 wl, .int .i64 ws, .slice (some ⟨g4, 0, none⟩) vl1 vl1] ∧ Blk w6 X6 [.int .i64 rl, .int .i64 (acN rl rn rk wl ws vl1), .int .i64 rk]) := hide ⟨(unhide K).1, (unhide K).2.1, (unhide K).2.2.1, (unhide K).2.2.2.1, (unhide K).2.2.2.2.1, (unhide K).2.2.2.2.2, (unhide JX6)⟩
  clear KEPT JX6 hSX6
  have KEPT : Hid (∀ W u3, (Below w.heap.size w W ∧ Blk W w.heap.size [.int .i64 rl, .int .i64 rn, .int .i64 rk] ∧ Blk W (w.heap.size + 1) [.int .i64 wl, .int .i64 ws, .slice va1 vl1 vc1] ∧ Blk W X3 [.int .i64 rl, .int .i64 (acN rl rn rk wl ws vl1), .int .i64 rk] ∧ WdOwn W w3.heap.size (some ⟨g4, 0, none⟩) vl1 vl1 ys ∧ Blk W X5 [.int .i64 wl, .int .i64 ws, .slice (some ⟨g4, 0, none⟩) vl1 vl1] ∧ Blk W X6 [.int .i64 rl, .int .i64 (acN rl rn rk wl ws vl1), .int .i64 rk]) → Below W.heap.size W u3 → (Below w.heap.size w u3 ∧ Blk u3 w.heap.size [.int .i64 rl, .int .i64 rn, .int .i64 rk] ∧ Blk u3 (w.heap.size + 1) [.int .i64 wl, .int .i64 ws, .slice va1 vl1 vc1] ∧ Blk u3 X3 [.int .i64 rl, .int .i64 (acN rl rn rk wl ws vl1), .int .i64 rk] ∧ WdOwn u3 w3.heap.size (some ⟨g4, 0, none⟩) vl1 vl1 ys ∧ Blk u3 X5 [.int .i64 wl, .int .i64 ws, .slice (some ⟨g4, 0, none⟩) vl1 vl1] ∧ Blk u3 X6 [.int .i64 rl, .int .i64 (acN rl rn rk wl ws vl1), .int .i64 rk])) := hide (fun W u3 h b => ⟨h.1.trans (b.mono h.1.size), h.2.1.below b, h.2.2.1.below b, h.2.2.2.1.below b, h.2.2.2.2.1.below b, h.2.2.2.2.2.1.below b, h.2.2.2.2.2.2.below b⟩)
  have mPd0 : w6.cell? ⟨w.heap.size, 0, none⟩ = some (.int .i64 rl) := (unhide K).2.1.c 0 (by simp)
  have mPd1 : w6.cell? ⟨w.heap.size, 1, none⟩ = some (.int .i64 rn) := (unhide K).2.1.c 1 (by simp)
  have mPd2 : w6.cell? ⟨w.heap.size, 2, none⟩ = some (.int .i64 rk) := (unhide K).2.1.c 2 (by simp)
  have mPv0 : w6.cell? ⟨w.heap.size + 1, 0, none⟩ = some (.int .i64 wl) := (unhide K).2.2.1.c 0 (by simp)
  have mPv1 : w6.cell? ⟨w.heap.size + 1, 1, none⟩ = some (.int .i64 ws) := (unhide K).2.2.1.c 1 (by simp)
  have mPv2 : w6.cell? ⟨w.heap.size + 1, 2, none⟩ = some (.slice va1 vl1 vc1) := (unhide K).2.2.1.c 2 (by simp)
  have mQWp00 : w6.cell? ⟨X3, 0, none⟩ = some (.int .i64 rl) := (unhide K).2.2.2.1.c 0 (by simp)
  have mQWp01 : w6.cell? ⟨X3, 1, none⟩ = some (.int .i64 (acN rl rn rk wl ws vl1)) := (unhide K).2.2.2.1.c 1 (by simp)
  have mQWp02 : w6.cell? ⟨X3, 2, none⟩ = some (.int .i64 rk) := (unhide K).2.2.2.1.c 2 (by simp)
  have mQXx10 : w6.cell? ⟨X5, 0, none⟩ = some (.int .i64 wl) := (unhide K).2.2.2.2.2.1.c 0 (by simp)
  have mQXx11 : w6.cell? ⟨X5, 1, none⟩ = some (.int .i64 ws) := (unhide K).2.2.2.2.2.1.c 1 (by simp)
  have mQXx12 : w6.cell? ⟨X5, 2, none⟩ = some (.slice (some ⟨g4, 0, none⟩) vl1 vl1) := (unhide K).2.2.2.2.2.1.c 2 (by simp)
  have mQGp00 : w6.cell? ⟨X6, 0, none⟩ = some (.int .i64 rl) := (unhide K).2.2.2.2.2.2.c 0 (by simp)
  have mQGp01 : w6.cell? ⟨X6, 1, none⟩ = some (.int .i64 (acN rl rn rk wl ws vl1)) := (unhide K).2.2.2.2.2.2.c 1 (by simp)
  have mQGp02 : w6.cell? ⟨X6, 2, none⟩ = some (.int .i64 rk) := (unhide K).2.2.2.2.2.2.c 2 (by simp)
  go_wp2_with fail
  clear mPd0 mPd1 mPd2 mPv0 mPv1 mPv2 mQWp00 mQWp01 mQWp02 mQXx10 mQXx11 mQXx12 mQGp00 mQGp01 mQGp02
  refine (eqReceiver_alike _ _ _ _ _ _ _ (rvAlike_refl _)).mono ?_
  rintro x w7 ⟨rfl, b⟩
  have S12 : Hid (w6.heap.size ≤ w7.heap.size) := hide b.size
  have K : Hid (Below w.heap.size w w7 ∧ Blk w7 w.heap.size [.int .i64 rl, .int .i64 rn, .int .i64 rk] ∧ Blk w7 (w.heap.size + 1) [.int .i64 wl, .int .i64 ws, .slice va1 vl1 vc1] ∧ Blk w7 X3 [.int .i64 rl, .int .i64 (acN rl rn rk wl ws vl1), .int .i64 rk] ∧ WdOwn w7 w3.heap.size (some ⟨g4, 0, none⟩) vl1 vl1 ys ∧ Blk w7 X5 [.int .i64 wl, .int .i64 ws, .slice (some ⟨g4, 0, none⟩) vl1 vl1] ∧ Blk w7 X6 [.int .i64 rl, .int .i64 (acN rl rn rk wl ws vl1), .int .i64 rk]) := hide ((unhide KEPT) _ _ (unhide K) b)
  clear b
  have mPd0 : w7.cell? ⟨w.heap.size, 0, none⟩ = some (.int .i64 rl) := (unhide K).2.1.c 0 (by simp)
  have mPd1 : w7.cell? ⟨w.heap.size, 1, none⟩ = some (.int .i64 rn) := (unhide K).2.1.c 1 (by simp)
  have mPd2 : w7.cell? ⟨w.heap.size, 2, none⟩ = some (.int .i64 rk) := (unhide K).2.1.c 2 (by simp)
  have mPv0 : w7.cell? ⟨w.heap.size + 1, 0, none⟩ = some (.int .i64 wl) := (unhide K).2.2.1.c 0 (by simp)
  have mPv1 : w7.cell? ⟨w.heap.size + 1, 1, none⟩ = some (.int .i64 ws) := (unhide K).2.2.1.c 1 (by simp)
  have mPv2 : w7.cell? ⟨w.heap.size + 1, 2, none⟩ = some (.slice va1 vl1 vc1) := (unhide K).2.2.1.c 2 (by simp)
  have mQWp00 : w7.cell? ⟨X3, 0, none⟩ = some (.int .i64 rl) := (unhide K).2.2.2.1.c 0 (by simp)
  have mQWp01 : w7.cell? ⟨X3, 1, none⟩ = some (.int .i64 (acN rl rn rk wl ws vl1)) := (unhide K).2.2.2.1.c 1 (by simp)
  have mQWp02 : w7.cell? ⟨X3, 2, none⟩ = some (.int .i64 rk) := (unhide K).2.2.2.1.c 2 (by simp)
  have mQXx10 : w7.cell? ⟨X5, 0, none⟩ = some (.int .i64 wl) := (unhide K).2.2.2.2.2.1.c 0 (by simp)
  have mQXx11 : w7.cell? ⟨X5, 1, none⟩ = some (.int .i64 ws) := (unhide K).2.2.2.2.2.1.c 1 (by simp)
  have mQXx12 : w7.cell? ⟨X5, 2, none⟩ = some (.slice (some ⟨g4, 0, none⟩) vl1 vl1) := (unhide K).2.2.2.2.2.1.c 2 (by simp)
  have mQGp00 : w7.cell? ⟨X6, 0, none⟩ = some (.int .i64 rl) := (unhide K).2.2.2.2.2.2.c 0 (by simp)
  have mQGp01 : w7.cell? ⟨X6, 1, none⟩ = some (.int .i64 (acN rl rn rk wl ws vl1)) := (unhide K).2.2.2.2.2.2.c 1 (by simp)
  have mQGp02 : w7.cell? ⟨X6, 2, none⟩ = some (.int .i64 rk) := (unhide K).2.2.2.2.2.2.c 2 (by simp)
  go_wp2_with fail
  clear mPd0 mPd1 mPd2 mPv0 mPv1 mPv2 mQWp00 mQWp01 mQWp02 mQXx10 mQXx11 mQXx12 mQGp00 mQGp01 mQGp02
  have mQXx10 : w7.cell? ⟨X5, 0, none⟩ = some (.int .i64 wl) := (unhide K).2.2.2.2.2.1.c 0 (by simp)
  have mQXx11 : w7.cell? ⟨X5, 1, none⟩ = some (.int .i64 ws) := (unhide K).2.2.2.2.2.1.c 1 (by simp)
  have mQXx12 : w7.cell? ⟨X5, 2, none⟩ = some (.slice (some ⟨g4, 0, none⟩) vl1 vl1) := (unhide K).2.2.2.2.2.1.c 2 (by simp)
  have mPv0 : w7.cell? ⟨w.heap.size + 1, 0, none⟩ = some (.int .i64 wl) := (unhide K).2.2.1.c 0 (by simp)
  have mPv1 : w7.cell? ⟨w.heap.size + 1, 1, none⟩ = some (.int .i64 ws) := (unhide K).2.2.1.c 1 (by simp)
  have mPv2 : w7.cell? ⟨w.heap.size + 1, 2, none⟩ = some (.slice va1 vl1 vc1) := (unhide K).2.2.1.c 2 (by simp)
  go_region_held3 (fun w' => w'.cell? ⟨X5, 0, none⟩ = some (.int .i64 wl) ∧ w'.cell? ⟨X5, 1, none⟩ = some (.int .i64 ws) ∧ w'.cell? ⟨X5, 2, none⟩ = some (.slice (some ⟨g4, 0, none⟩) vl1 vl1) ∧ w'.cell? ⟨w.heap.size + 1, 0, none⟩ = some (.int .i64 wl) ∧ w'.cell? ⟨w.heap.size + 1, 1, none⟩ = some (.int .i64 ws) ∧ w'.cell? ⟨w.heap.size + 1, 2, none⟩ = some (.slice va1 vl1 vc1)) (go_keep)
    ((first
      | (go_at_call 11; refine (toWord16_own _ _ _ _ _ _ _ (by first | exact (unhide Rv).below (unhide K).1 | exact ((unhide Rv).below (unhide K).1).below (bel0d 1)) hv1).mono ?_; rintro x w8 ⟨⟨e7, rfl, oc⟩, b⟩; have IC := hide oc.read; clear oc; have S13 : Hid (w7.heap.size ≤ w8.heap.size) := hide b.size; have K := hide (show Below w.heap.size w w8 ∧ Blk w8 w.heap.size [.int .i64 rl, .int .i64 rn, .int .i64 rk] ∧ Blk w8 (w.heap.size + 1) [.int .i64 wl, .int .i64 ws, .slice va1 vl1 vc1] ∧ Blk w8 X3 [.int .i64 rl, .int .i64 (acN rl rn rk wl ws vl1), .int .i64 rk] ∧ WdOwn w8 w3.heap.size (some ⟨g4, 0, none⟩) vl1 vl1 ys ∧ Blk w8 X5 [.int .i64 wl, .int .i64 ws, .slice (some ⟨g4, 0, none⟩) vl1 vl1] ∧ Blk w8 X6 [.int .i64 rl, .int .i64 (acN rl rn rk wl ws vl1), .int .i64 rk] from by first | exact (unhide KEPT) _ _ (unhide K) b | exact (unhide KEPT) _ _ ((unhide KEPT) _ _ (unhide K) (bel0d 1)) b); clear mQXx10 mQXx11 mQXx12 mPv0 mPv1 mPv2; have mQXx10 : w8.cell? ⟨X5, 0, none⟩ = some (.int .i64 wl) := (unhide K).2.2.2.2.2.1.c 0 (by simp); have mQXx11 : w8.cell? ⟨X5, 1, none⟩ = some (.int .i64 ws) := (unhide K).2.2.2.2.2.1.c 1 (by simp); have mQXx12 : w8.cell? ⟨X5, 2, none⟩ = some (.slice (some ⟨g4, 0, none⟩) vl1 vl1) := (unhide K).2.2.2.2.2.1.c 2 (by simp); have mPv0 : w8.cell? ⟨w.heap.size + 1, 0, none⟩ = some (.int .i64 wl) := (unhide K).2.2.1.c 0 (by simp); have mPv1 : w8.cell? ⟨w.heap.size + 1, 1, none⟩ = some (.int .i64 ws) := (unhide K).2.2.1.c 1 (by simp); have mPv2 : w8.cell? ⟨w.heap.size + 1, 2, none⟩ = some (.slice va1 vl1 vc1) := (unhide K).2.2.1.c 2 (by simp); clear b)
      | (go_at_call 13; refine (eqWord16_same _ _ _ _ _ _ _ _ _ (by first | exact (unhide K).2.2.2.2.1.read | exact (unhide K).2.2.2.2.1.read.below (bel0d 1)) (by first | exact unhide IC | exact (unhide IC).below (bel0d 1))).mono ?_; rintro x w9 ⟨rfl, b⟩; clear IC; have S14 : Hid (w8.heap.size ≤ w9.heap.size) := hide b.size; have K := hide (show Below w.heap.size w w9 ∧ Blk w9 w.heap.size [.int .i64 rl, .int .i64 rn, .int .i64 rk] ∧ Blk w9 (w.heap.size + 1) [.int .i64 wl, .int .i64 ws, .slice va1 vl1 vc1] ∧ Blk w9 X3 [.int .i64 rl, .int .i64 (acN rl rn rk wl ws vl1), .int .i64 rk] ∧ WdOwn w9 w3.heap.size (some ⟨g4, 0, none⟩) vl1 vl1 ys ∧ Blk w9 X5 [.int .i64 wl, .int .i64 ws, .slice (some ⟨g4, 0, none⟩) vl1 vl1] ∧ Blk w9 X6 [.int .i64 rl, .int .i64 (acN rl rn rk wl ws vl1), .int .i64 rk] from by first | exact (unhide KEPT) _ _ (unhide K) b | exact (unhide KEPT) _ _ ((unhide KEPT) _ _ (unhide K) (bel0d 1)) b); clear mQXx10 mQXx11 mQXx12 mPv0 mPv1 mPv2; have mQXx10 : w9.cell? ⟨X5, 0, none⟩ = some (.int .i64 wl) := (unhide K).2.2.2.2.2.1.c 0 (by simp); have mQXx11 : w9.cell? ⟨X5, 1, none⟩ = some (.int .i64 ws) := (unhide K).2.2.2.2.2.1.c 1 (by simp); have mQXx12 : w9.cell? ⟨X5, 2, none⟩ = some (.slice (some ⟨g4, 0, none⟩) vl1 vl1) := (unhide K).2.2.2.2.2.1.c 2 (by simp); have mPv0 : w9.cell? ⟨w.heap.size + 1, 0, none⟩ = some (.int .i64 wl) := (unhide K).2.2.1.c 0 (by simp); have mPv1 : w9.cell? ⟨w.heap.size + 1, 1, none⟩ = some (.int .i64 ws) := (unhide K).2.2.1.c 1 (by simp); have mPv2 : w9.cell? ⟨w.heap.size + 1, 2, none⟩ = some (.slice va1 vl1 vc1) := (unhide K).2.2.1.c 2 (by simp); clear b)))
  clear mQXx10 mQXx11 mQXx12 mPv0 mPv1 mPv2
  have mPd0 : w9.cell? ⟨w.heap.size, 0, none⟩ = some (.int .i64 rl) := (unhide K).2.1.c 0 (by simp)
  have mPd1 : w9.cell? ⟨w.heap.size, 1, none⟩ = some (.int .i64 rn) := (unhide K).2.1.c 1 (by simp)
  have mPd2 : w9.cell? ⟨w.heap.size, 2, none⟩ = some (.int .i64 rk) := (unhide K).2.1.c 2 (by simp)
  have mPv0 : w9.cell? ⟨w.heap.size + 1, 0, none⟩ = some (.int .i64 wl) := (unhide K).2.2.1.c 0 (by simp)
  have mPv1 : w9.cell? ⟨w.heap.size + 1, 1, none⟩ = some (.int .i64 ws) := (unhide K).2.2.1.c 1 (by simp)
  have mPv2 : w9.cell? ⟨w.heap.size + 1, 2, none⟩ = some (.slice va1 vl1 vc1) := (unhide K).2.2.1.c 2 (by simp)
  have mQWp00 : w9.cell? ⟨X3, 0, none⟩ = some (.int .i64 rl) := (unhide K).2.2.2.1.c 0 (by simp)
  have mQWp01 : w9.cell? ⟨X3, 1, none⟩ = some (.int .i64 (acN rl rn rk wl ws vl1)) := (unhide K).2.2.2.1.c 1 (by simp)
  have mQWp02 : w9.cell? ⟨X3, 2, none⟩ = some (.int .i64 rk) := (unhide K).2.2.2.1.c 2 (by simp)
  have mQXx10 : w9.cell? ⟨X5, 0, none⟩ = some (.int .i64 wl) := (unhide K).2.2.2.2.2.1.c 0 (by simp)
  have mQXx11 : w9.cell? ⟨X5, 1, none⟩ = some (.int .i64 ws) := (unhide K).2.2.2.2.2.1.c 1 (by simp)
  have mQXx12 : w9.cell? ⟨X5, 2, none⟩ = some (.slice (some ⟨g4, 0, none⟩) vl1 vl1) := (unhide K).2.2.2.2.2.1.c 2 (by simp)
  have mQGp00 : w9.cell? ⟨X6, 0, none⟩ = some (.int .i64 rl) := (unhide K).2.2.2.2.2.2.c 0 (by simp)
  have mQGp01 : w9.cell? ⟨X6, 1, none⟩ = some (.int .i64 (acN rl rn rk wl ws vl1)) := (unhide K).2.2.2.2.2.2.c 1 (by simp)
  have mQGp02 : w9.cell? ⟨X6, 2, none⟩ = some (.int .i64 rk) := (unhide K).2.2.2.2.2.2.c 2 (by simp)
  go_wp2_with fail
  clear mPd0 mPd1 mPd2 mPv0 mPv1 mPv2 mQWp00 mQWp01 mQWp02 mQXx10 mQXx11 mQXx12 mQGp00 mQGp01 mQGp02
  go_ret
  exact ⟨rfl, (unhide K).1⟩
end Go.Proofs.Ytnhcmokkankcmay
