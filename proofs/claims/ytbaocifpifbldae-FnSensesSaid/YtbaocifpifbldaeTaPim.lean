/-
  Pair of the program: the plain answer, at every argument; nothing that was there is written. (Its first region draws its order: by an invariant.)
-/
import Derived.Test.YtbaocifpifbldaeTaPair
import Derived.Test.YtbaocifpifbldaeRegInv
namespace Go.Proofs.Ytbaocifpifbldae
open Go.RowKit

structure PrR (W : World) (ai ah ac as_ bi bh bc bs near wi : Int) (t0 t1 t2 t3 t4 t5 t6 t7 t8 t9 t10 t11 : Bool) (v0 v1 v2 v3 v4 v5 v6 v7 p q : Value) (w : World) : Prop where
  bel : Below W.heap.size W w
  e0 : t0 = true → v0 = .agg #[.int .i64 ai, .int .i64 ah, .int .i64 ac, .int .i64 as_]
  e1 : t1 = true → v1 = .int .i64 near
  e2 : t2 = true → v2 = .int .i64 wi
  e3 : t3 = true → v3 = .agg #[.int .i64 ai, .int .i64 ah, .int .i64 ac, .int .i64 as_, .int .i64 near, .int .i64 wi]
  e4 : t4 = true → v4 = .agg #[.int .i64 bi, .int .i64 bh, .int .i64 bc, .int .i64 bs]
  e5 : t5 = true → v5 = .int .i64 near
  e6 : t6 = true → v6 = .int .i64 wi
  e7 : t7 = true → v7 = .agg #[.int .i64 bi, .int .i64 bh, .int .i64 bc, .int .i64 bs, .int .i64 near, .int .i64 wi]
  e8 : t8 = true → ∃ P, p = .pointer (some ⟨P, 0, none⟩) ∧ W.heap.size ≤ P ∧ Blk w P (bif t10 then [.int .i64 ai, .int .i64 ah, .int .i64 ac, .int .i64 as_, .int .i64 near, .int .i64 wi] else [.int .i64 0, .int .i64 0, .int .i64 0, .int .i64 0, .int .i64 0, .int .i64 0])
  e9 : t9 = true → ∃ Q, q = .pointer (some ⟨Q, 0, none⟩) ∧ W.heap.size ≤ Q ∧ Blk w Q (bif t11 then [.int .i64 bi, .int .i64 bh, .int .i64 bc, .int .i64 bs, .int .i64 near, .int .i64 wi] else [.int .i64 0, .int .i64 0, .int .i64 0, .int .i64 0, .int .i64 0, .int .i64 0])
  ne : t8 = true → t9 = true → p ≠ q
  n10 : t10 = true → t8 = true
  n11 : t11 = true → t9 = true
theorem PrR.below {W : World} {ai ah ac as_ bi bh bc bs near wi : Int} {t0 t1 t2 t3 t4 t5 t6 t7 t8 t9 t10 t11 : Bool} {v0 v1 v2 v3 v4 v5 v6 v7 p q : Value} {w w' : World} (K : PrR W ai ah ac as_ bi bh bc bs near wi t0 t1 t2 t3 t4 t5 t6 t7 t8 t9 t10 t11 v0 v1 v2 v3 v4 v5 v6 v7 p q w) (k : Below w.heap.size w w') : PrR W ai ah ac as_ bi bh bc bs near wi t0 t1 t2 t3 t4 t5 t6 t7 t8 t9 t10 t11 v0 v1 v2 v3 v4 v5 v6 v7 p q w' :=
  ⟨K.bel.trans (k.mono K.bel.size), K.e0, K.e1, K.e2, K.e3, K.e4, K.e5, K.e6, K.e7, fun h => by obtain ⟨P, x1, x2, x3⟩ := K.e8 h; exact ⟨P, x1, x2, x3.below k⟩, fun h => by obtain ⟨P, x1, x2, x3⟩ := K.e9 h; exact ⟨P, x1, x2, x3.below k⟩, K.ne, K.n10, K.n11⟩
def PrRJ (W : World) (ai ah ac as_ bi bh bc bs near wi : Int) (A0 : Act) (l : Nat → Bool) (a : Act) (V : World) : Prop := ∃ (v0 v1 v2 v3 v4 v5 v6 v7 p q : Value), a = ((((((((((A0.put (some 21) v0).put (some 22) v1).put (some 23) v2).put (some 24) v3).put (some 25) v4).put (some 26) v5).put (some 27) v6).put (some 28) v7).put (some 15) p).put (some 16) q) ∧ PrR W ai ah ac as_ bi bh bc bs near wi (l 0) (l 1) (l 2) (l 3) (l 4) (l 5) (l 6) (l 7) (l 8) (l 9) (l 10) (l 11) v0 v1 v2 v3 v4 v5 v6 v7 p q V
theorem PrRJ.mk {W : World} {ai ah ac as_ bi bh bc bs near wi : Int} {A0 : Act} {l : Nat → Bool} {a : Act} {V : World} {v0 v1 v2 v3 v4 v5 v6 v7 p q : Value} (K : PrR W ai ah ac as_ bi bh bc bs near wi (l 0) (l 1) (l 2) (l 3) (l 4) (l 5) (l 6) (l 7) (l 8) (l 9) (l 10) (l 11) v0 v1 v2 v3 v4 v5 v6 v7 p q V) (h : a = ((((((((((A0.put (some 21) v0).put (some 22) v1).put (some 23) v2).put (some 24) v3).put (some 25) v4).put (some 26) v5).put (some 27) v6).put (some 28) v7).put (some 15) p).put (some 16) q)) : PrRJ W ai ah ac as_ bi bh bc bs near wi A0 l a V := ⟨v0, v1, v2, v3, v4, v5, v6, v7, p, q, h, K⟩

theorem prB_three (ai ah ac as_ bi bh bc bs far cl near wi : Int) : prB15 ai ah ac as_ bi bh bc bs far cl near wi = ((avB ai ah ac as_ && inB near 0 10000 && inB wi 1 300) && tcB bi bh bc far cl bs && !(ai == bi)) := by
  unfold prB15 tcB
  cases avB ai ah ac as_ <;> cases avB bi bh bc bs <;> cases (ai == bi) <;> cases inB near 0 10000 <;> cases inB wi 1 300 <;> simp
theorem pr_no {ai ah ac as_ bi bh bc bs far cl near wi : Int} (h : prB15 ai ah ac as_ bi bh bc bs far cl near wi = false) : pr1 ai ah ac as_ bi bh bc bs far cl near wi = 0 ∧ pr2 ai ah ac as_ bi bh bc bs far cl near wi = 0 := by simp [pr1, pr2, h]
theorem pr_lt {ai ah ac as_ bi bh bc bs far cl near wi : Int} (h : prB15 ai ah ac as_ bi bh bc bs far cl near wi = true) (k : ¬ bi < ai) : pr1 ai ah ac as_ bi bh bc bs far cl near wi = ps1 ai ah ac as_ bi bh bc bs far cl near wi ∧ pr2 ai ah ac as_ bi bh bc bs far cl near wi = ps2 ai ah ac as_ bi bh bc bs far cl near wi := by simp [pr1, pr2, h, k]
theorem pr_gt {ai ah ac as_ bi bh bc bs far cl near wi : Int} (h : prB15 ai ah ac as_ bi bh bc bs far cl near wi = true) (k : bi < ai) : pr1 ai ah ac as_ bi bh bc bs far cl near wi = ps2 bi bh bc bs ai ah ac as_ far cl near wi ∧ pr2 ai ah ac as_ bi bh bc bs far cl near wi = ps1 bi bh bc bs ai ah ac as_ far cl near wi := by simp [pr1, pr2, h, k]
theorem ret_iib {a b a' b' : Int} {c c' : Bool} (h1 : a = a') (h2 : b = b') (h3 : c = c') : Ending.returned (.tuple #[.int .i64 a, .int .i64 b, .bool c]) = .returned (.tuple #[.int .i64 a', .int .i64 b', .bool c']) := by rw [h1, h2, h3]

set_option maxRecDepth 20000 in
set_option maxHeartbeats 1000000 in
theorem implPair_is {X Y : Int} {Z : Bool} (ai ah ac as_ bi bh bc bs far cl near wi : Int) (w : World) (hx : pr1 ai ah ac as_ bi bh bc bs far cl near wi = X) (hy : pr2 ai ah ac as_ bi bh bc bs far cl near wi = Y) (hz : prB15 ai ah ac as_ bi bh bc bs far cl near wi = Z) :
    Calls Try.prog 32 #[.agg #[.int .i64 ai, .int .i64 ah, .int .i64 ac, .int .i64 as_], .agg #[.int .i64 bi, .int .i64 bh, .int .i64 bc, .int .i64 bs], .int .i64 far, .int .i64 cl, .int .i64 near, .int .i64 wi] w fun e w' => e = .returned (.tuple #[.int .i64 X, .int .i64 Y, .bool Z]) ∧ Below w.heap.size w w' := by
  have HX := hide hx
  have HY := hide hy
  have HZ := hide hz
  clear hx hy hz
  go_enter Try.func32, Try.ntmps32
  go_wp2_with fail
  obtain ⟨W, hW⟩ : ∃ W, W = ((w.alloc (Obj.cells #[.int .i64 ai, .int .i64 ah, .int .i64 ac, .int .i64 as_] 76)).alloc (Obj.cells #[.int .i64 bi, .int .i64 bh, .int .i64 bc, .int .i64 bs] 76)) := ⟨_, rfl⟩
  rw [← hW]
  have K0 : Hid (Blk W (w.heap.size) [.int .i64 ai, .int .i64 ah, .int .i64 ac, .int .i64 as_]) := hide (by rw [hW]; exact blkAt2_0)
  have K1 : Hid (Blk W (w.heap.size + 1) [.int .i64 bi, .int .i64 bh, .int .i64 bc, .int .i64 bs]) := hide (by rw [hW]; exact blkAt2_1)
  have B0 : Hid (Below w.heap.size w W) := hide (by rw [hW]; exact (by repeat (first | exact Below.refl _ _ | refine Below.alloc ?_ (by simp; try omega) _ | refine Below.setCell ?_ (by simp; try omega) _ | refine taDr ?_ _)))
  clear hW
  refine wp_region_flagsA (by kernel_rfl) (by kernel_rfl) (PrRJ W ai ah ac as_ bi bh bc bs near wi) ?_ ?_ ?_
  · exact PrRJ.mk (v0 := undef) (v1 := undef) (v2 := undef) (v3 := undef) (v4 := undef) (v5 := undef) (v6 := undef) (v7 := undef) (p := undef) (q := undef) ⟨(bel0d' 1 : Below W.heap.size W (W.drewN 1)), (fun h => by cases h), (fun h => by cases h), (fun h => by cases h), (fun h => by cases h), (fun h => by cases h), (fun h => by cases h), (fun h => by cases h), (fun h => by cases h), (fun h => by cases h), (fun h => by cases h), (fun h => by cases h), (fun h => by cases h), (fun h => by cases h)⟩ (by kernel_rfl)
  rotate_left 1
  · rintro l a V i o ho hl hd ⟨v0, v1, v2, v3, v4, v5, v6, v7, p, q, rfl, K⟩
    have hi : i < 12 := (Array.getElem?_eq_some_iff.1 ho).1
    rcases (show i = 0 ∨ i = 1 ∨ i = 2 ∨ i = 3 ∨ i = 4 ∨ i = 5 ∨ i = 6 ∨ i = 7 ∨ i = 8 ∨ i = 9 ∨ i = 10 ∨ i = 11 from by omega) with rfl | rfl | rfl | rfl | rfl | rfl | rfl | rfl | rfl | rfl | rfl | rfl
    · simp at ho
      subst ho
      have cb := (unhide K0).below K.bel
      have y0 : V.cell? ⟨w.heap.size, 0, none⟩ = some (.int .i64 ai) := cb.c 0 (by simp)
      have y1 : V.cell? ⟨w.heap.size, 1, none⟩ = some (.int .i64 ah) := cb.c 1 (by simp)
      have y2 : V.cell? ⟨w.heap.size, 2, none⟩ = some (.int .i64 ac) := cb.c 2 (by simp)
      have y3 : V.cell? ⟨w.heap.size, 3, none⟩ = some (.int .i64 as_) := cb.c 3 (by simp)
      have HK : Hid (PrR W ai ah ac as_ bi bh bc bs near wi true (l 1) (l 2) (l 3) (l 4) (l 5) (l 6) (l 7) (l 8) (l 9) (l 10) (l 11) (.agg #[.int .i64 ai, .int .i64 ah, .int .i64 ac, .int .i64 as_]) v1 v2 v3 v4 v5 v6 v7 p q V) := hide ⟨(K.bel), (fun _ => rfl), (K.e1), (K.e2), (K.e3), (K.e4), (K.e5), (K.e6), (K.e7), (K.e8), (K.e9), (K.ne), (K.n10), (K.n11)⟩
      clear K hd hl cb
      go_wp2_with fail
      exact ⟨rfl, PrRJ.mk (unhide HK) (by kernel_rfl)⟩
    · simp at ho
      subst ho
      have HK : Hid (PrR W ai ah ac as_ bi bh bc bs near wi (l 0) true (l 2) (l 3) (l 4) (l 5) (l 6) (l 7) (l 8) (l 9) (l 10) (l 11) v0 (.int .i64 near) v2 v3 v4 v5 v6 v7 p q V) := hide ⟨(K.bel), (K.e0), (fun _ => rfl), (K.e2), (K.e3), (K.e4), (K.e5), (K.e6), (K.e7), (K.e8), (K.e9), (K.ne), (K.n10), (K.n11)⟩
      clear K hd hl
      go_wp2_with fail
      exact ⟨rfl, PrRJ.mk (unhide HK) (by kernel_rfl)⟩
    · simp at ho
      subst ho
      have HK : Hid (PrR W ai ah ac as_ bi bh bc bs near wi (l 0) (l 1) true (l 3) (l 4) (l 5) (l 6) (l 7) (l 8) (l 9) (l 10) (l 11) v0 v1 (.int .i64 wi) v3 v4 v5 v6 v7 p q V) := hide ⟨(K.bel), (K.e0), (K.e1), (fun _ => rfl), (K.e3), (K.e4), (K.e5), (K.e6), (K.e7), (K.e8), (K.e9), (K.ne), (K.n10), (K.n11)⟩
      clear K hd hl
      go_wp2_with fail
      exact ⟨rfl, PrRJ.mk (unhide HK) (by kernel_rfl)⟩
    · simp at ho
      subst ho
      have e0 := K.e0 (hd ⟨0, .data⟩ (by simp) rfl)
      subst e0
      have e1 := K.e1 (hd ⟨1, .data⟩ (by simp) rfl)
      subst e1
      have e2 := K.e2 (hd ⟨2, .data⟩ (by simp) rfl)
      subst e2
      have HK0 := hide K
      clear K hd hl
      go_wp2_with (go_at_call 75; refine (watcherOf_al _ _ _ _ _ _ _).mono ?_; rintro e V2 ⟨rfl, b2⟩; have K := (unhide HK0).below b2; have HK : Hid (PrR W ai ah ac as_ bi bh bc bs near wi (l 0) (l 1) (l 2) true (l 4) (l 5) (l 6) (l 7) (l 8) (l 9) (l 10) (l 11) (.agg #[.int .i64 ai, .int .i64 ah, .int .i64 ac, .int .i64 as_]) (.int .i64 near) (.int .i64 wi) (.agg #[.int .i64 ai, .int .i64 ah, .int .i64 ac, .int .i64 as_, .int .i64 near, .int .i64 wi]) v4 v5 v6 v7 p q V2) := hide ⟨(K.bel), (K.e0), (K.e1), (K.e2), (fun _ => rfl), (K.e4), (K.e5), (K.e6), (K.e7), (K.e8), (K.e9), (K.ne), (K.n10), (K.n11)⟩; clear K b2)
      exact ⟨rfl, PrRJ.mk (unhide HK) (by kernel_rfl)⟩
    · simp at ho
      subst ho
      have cb := (unhide K1).below K.bel
      have y0 : V.cell? ⟨w.heap.size + 1, 0, none⟩ = some (.int .i64 bi) := cb.c 0 (by simp)
      have y1 : V.cell? ⟨w.heap.size + 1, 1, none⟩ = some (.int .i64 bh) := cb.c 1 (by simp)
      have y2 : V.cell? ⟨w.heap.size + 1, 2, none⟩ = some (.int .i64 bc) := cb.c 2 (by simp)
      have y3 : V.cell? ⟨w.heap.size + 1, 3, none⟩ = some (.int .i64 bs) := cb.c 3 (by simp)
      have HK : Hid (PrR W ai ah ac as_ bi bh bc bs near wi (l 0) (l 1) (l 2) (l 3) true (l 5) (l 6) (l 7) (l 8) (l 9) (l 10) (l 11) v0 v1 v2 v3 (.agg #[.int .i64 bi, .int .i64 bh, .int .i64 bc, .int .i64 bs]) v5 v6 v7 p q V) := hide ⟨(K.bel), (K.e0), (K.e1), (K.e2), (K.e3), (fun _ => rfl), (K.e5), (K.e6), (K.e7), (K.e8), (K.e9), (K.ne), (K.n10), (K.n11)⟩
      clear K hd hl cb
      go_wp2_with fail
      exact ⟨rfl, PrRJ.mk (unhide HK) (by kernel_rfl)⟩
    · simp at ho
      subst ho
      have HK : Hid (PrR W ai ah ac as_ bi bh bc bs near wi (l 0) (l 1) (l 2) (l 3) (l 4) true (l 6) (l 7) (l 8) (l 9) (l 10) (l 11) v0 v1 v2 v3 v4 (.int .i64 near) v6 v7 p q V) := hide ⟨(K.bel), (K.e0), (K.e1), (K.e2), (K.e3), (K.e4), (fun _ => rfl), (K.e6), (K.e7), (K.e8), (K.e9), (K.ne), (K.n10), (K.n11)⟩
      clear K hd hl
      go_wp2_with fail
      exact ⟨rfl, PrRJ.mk (unhide HK) (by kernel_rfl)⟩
    · simp at ho
      subst ho
      have HK : Hid (PrR W ai ah ac as_ bi bh bc bs near wi (l 0) (l 1) (l 2) (l 3) (l 4) (l 5) true (l 7) (l 8) (l 9) (l 10) (l 11) v0 v1 v2 v3 v4 v5 (.int .i64 wi) v7 p q V) := hide ⟨(K.bel), (K.e0), (K.e1), (K.e2), (K.e3), (K.e4), (K.e5), (fun _ => rfl), (K.e7), (K.e8), (K.e9), (K.ne), (K.n10), (K.n11)⟩
      clear K hd hl
      go_wp2_with fail
      exact ⟨rfl, PrRJ.mk (unhide HK) (by kernel_rfl)⟩
    · simp at ho
      subst ho
      have e4 := K.e4 (hd ⟨4, .data⟩ (by simp) rfl)
      subst e4
      have e5 := K.e5 (hd ⟨5, .data⟩ (by simp) rfl)
      subst e5
      have e6 := K.e6 (hd ⟨6, .data⟩ (by simp) rfl)
      subst e6
      have HK0 := hide K
      clear K hd hl
      go_wp2_with (go_at_call 75; refine (watcherOf_al _ _ _ _ _ _ _).mono ?_; rintro e V2 ⟨rfl, b2⟩; have K := (unhide HK0).below b2; have HK : Hid (PrR W ai ah ac as_ bi bh bc bs near wi (l 0) (l 1) (l 2) (l 3) (l 4) (l 5) (l 6) true (l 8) (l 9) (l 10) (l 11) v0 v1 v2 v3 (.agg #[.int .i64 bi, .int .i64 bh, .int .i64 bc, .int .i64 bs]) (.int .i64 near) (.int .i64 wi) (.agg #[.int .i64 bi, .int .i64 bh, .int .i64 bc, .int .i64 bs, .int .i64 near, .int .i64 wi]) p q V2) := hide ⟨(K.bel), (K.e0), (K.e1), (K.e2), (K.e3), (K.e4), (K.e5), (K.e6), (fun _ => rfl), (K.e8), (K.e9), (K.ne), (K.n10), (K.n11)⟩; clear K b2)
      exact ⟨rfl, PrRJ.mk (unhide HK) (by kernel_rfl)⟩
    · simp at ho
      subst ho
      have nz : l 10 = false := by cases c : l 10; rfl; have := K.n10 c; rw [hl] at this; cases this
      have HK : Hid (PrR W ai ah ac as_ bi bh bc bs near wi (l 0) (l 1) (l 2) (l 3) (l 4) (l 5) (l 6) (l 7) true (l 9) (l 10) (l 11) v0 v1 v2 v3 v4 v5 v6 v7 (.pointer (some ⟨V.heap.size, 0, none⟩)) q (V.alloc (Obj.cells #[.int .i64 0, .int .i64 0, .int .i64 0, .int .i64 0, .int .i64 0, .int .i64 0] 145))) := hide ⟨(K.bel.trans ((bel1 _).mono K.bel.size)), (K.e0), (K.e1), (K.e2), (K.e3), (K.e4), (K.e5), (K.e6), (K.e7), (fun _ => ⟨_, rfl, K.bel.size, by rw [nz]; exact Blk.new _ _⟩), (fun h => by obtain ⟨P, x1, x2, x3⟩ := K.e9 h; exact ⟨P, x1, x2, x3.alloc _⟩), (fun _ h e => by obtain ⟨P, x1, x2, x3⟩ := K.e9 h; rw [x1] at e; have := x3.lt; simp at e <;> omega), (fun h => by cases nz.symm.trans h), (K.n11)⟩
      clear K hd hl nz
      go_wp2_with fail
      exact ⟨rfl, PrRJ.mk (unhide HK) (by kernel_rfl)⟩
    · simp at ho
      subst ho
      have nz : l 11 = false := by cases c : l 11; rfl; have := K.n11 c; rw [hl] at this; cases this
      have HK : Hid (PrR W ai ah ac as_ bi bh bc bs near wi (l 0) (l 1) (l 2) (l 3) (l 4) (l 5) (l 6) (l 7) (l 8) true (l 10) (l 11) v0 v1 v2 v3 v4 v5 v6 v7 p (.pointer (some ⟨V.heap.size, 0, none⟩)) (V.alloc (Obj.cells #[.int .i64 0, .int .i64 0, .int .i64 0, .int .i64 0, .int .i64 0, .int .i64 0] 145))) := hide ⟨(K.bel.trans ((bel1 _).mono K.bel.size)), (K.e0), (K.e1), (K.e2), (K.e3), (K.e4), (K.e5), (K.e6), (K.e7), (fun h => by obtain ⟨P, x1, x2, x3⟩ := K.e8 h; exact ⟨P, x1, x2, x3.alloc _⟩), (fun _ => ⟨_, rfl, K.bel.size, by rw [nz]; exact Blk.new _ _⟩), (fun h _ e => by obtain ⟨P, x1, x2, x3⟩ := K.e8 h; rw [x1] at e; have := x3.lt; simp at e <;> omega), (K.n10), (fun h => by cases nz.symm.trans h)⟩
      clear K hd hl nz
      go_wp2_with fail
      exact ⟨rfl, PrRJ.mk (unhide HK) (by kernel_rfl)⟩
    · simp at ho
      subst ho
      have d8 : l 8 = true := hd ⟨8, .data⟩ (by simp) rfl
      have ec := K.e3 (hd ⟨3, .data⟩ (by simp) rfl)
      obtain ⟨P, x1, x2, x3⟩ := K.e8 d8
      rw [hl] at x3
      have y0 : V.cell? ⟨P, 0, none⟩ = some (.int .i64 0) := x3.c 0 (by simp)
      have f0 := x3.f 0 (by simp)
      have y1 : V.cell? ⟨P, 1, none⟩ = some (.int .i64 0) := x3.c 1 (by simp)
      have f1 := x3.f 1 (by simp)
      have y2 : V.cell? ⟨P, 2, none⟩ = some (.int .i64 0) := x3.c 2 (by simp)
      have f2 := x3.f 2 (by simp)
      have y3 : V.cell? ⟨P, 3, none⟩ = some (.int .i64 0) := x3.c 3 (by simp)
      have f3 := x3.f 3 (by simp)
      have y4 : V.cell? ⟨P, 4, none⟩ = some (.int .i64 0) := x3.c 4 (by simp)
      have f4 := x3.f 4 (by simp)
      have y5 : V.cell? ⟨P, 5, none⟩ = some (.int .i64 0) := x3.c 5 (by simp)
      have f5 := x3.f 5 (by simp)
      have HK : Hid (PrR W ai ah ac as_ bi bh bc bs near wi (l 0) (l 1) (l 2) (l 3) (l 4) (l 5) (l 6) (l 7) (l 8) (l 9) true (l 11) v0 v1 v2 v3 v4 v5 v6 v7 p q ((((((V.setCell ⟨P, 0, none⟩ (.int .i64 ai)).setCell ⟨P, 1, none⟩ (.int .i64 ah)).setCell ⟨P, 2, none⟩ (.int .i64 ac)).setCell ⟨P, 3, none⟩ (.int .i64 as_)).setCell ⟨P, 4, none⟩ (.int .i64 near)).setCell ⟨P, 5, none⟩ (.int .i64 wi))) := hide ⟨(((((((K.bel.setCell x2 _).setCell x2 _).setCell x2 _).setCell x2 _).setCell x2 _).setCell x2 _)), (K.e0), (K.e1), (K.e2), (K.e3), (K.e4), (K.e5), (K.e6), (K.e7), (fun _ => ⟨P, x1, x2, ((((((x3.set 0 (by simp) _).set 1 (by simp) _).set 2 (by simp) _).set 3 (by simp) _).set 4 (by simp) _).set 5 (by simp) _)⟩), (fun h => by obtain ⟨Q, z1, z2, z3⟩ := K.e9 h; have hne : P ≠ Q := fun e => (K.ne d8 h) (by rw [x1, z1, e]); exact ⟨Q, z1, z2, ((((((z3.other (p := ⟨P, 0, none⟩) hne _).other (p := ⟨P, 1, none⟩) hne _).other (p := ⟨P, 2, none⟩) hne _).other (p := ⟨P, 3, none⟩) hne _).other (p := ⟨P, 4, none⟩) hne _).other (p := ⟨P, 5, none⟩) hne _)⟩), (K.ne), (fun _ => d8), (K.n11)⟩
      clear K hd hl x3
      subst x1
      subst ec
      go_wp2_with fail
      exact ⟨rfl, PrRJ.mk (unhide HK) (by kernel_rfl)⟩
    · simp at ho
      subst ho
      have d9 : l 9 = true := hd ⟨9, .data⟩ (by simp) rfl
      have ec := K.e7 (hd ⟨7, .data⟩ (by simp) rfl)
      obtain ⟨P, x1, x2, x3⟩ := K.e9 d9
      rw [hl] at x3
      have y0 : V.cell? ⟨P, 0, none⟩ = some (.int .i64 0) := x3.c 0 (by simp)
      have f0 := x3.f 0 (by simp)
      have y1 : V.cell? ⟨P, 1, none⟩ = some (.int .i64 0) := x3.c 1 (by simp)
      have f1 := x3.f 1 (by simp)
      have y2 : V.cell? ⟨P, 2, none⟩ = some (.int .i64 0) := x3.c 2 (by simp)
      have f2 := x3.f 2 (by simp)
      have y3 : V.cell? ⟨P, 3, none⟩ = some (.int .i64 0) := x3.c 3 (by simp)
      have f3 := x3.f 3 (by simp)
      have y4 : V.cell? ⟨P, 4, none⟩ = some (.int .i64 0) := x3.c 4 (by simp)
      have f4 := x3.f 4 (by simp)
      have y5 : V.cell? ⟨P, 5, none⟩ = some (.int .i64 0) := x3.c 5 (by simp)
      have f5 := x3.f 5 (by simp)
      have HK : Hid (PrR W ai ah ac as_ bi bh bc bs near wi (l 0) (l 1) (l 2) (l 3) (l 4) (l 5) (l 6) (l 7) (l 8) (l 9) (l 10) true v0 v1 v2 v3 v4 v5 v6 v7 p q ((((((V.setCell ⟨P, 0, none⟩ (.int .i64 bi)).setCell ⟨P, 1, none⟩ (.int .i64 bh)).setCell ⟨P, 2, none⟩ (.int .i64 bc)).setCell ⟨P, 3, none⟩ (.int .i64 bs)).setCell ⟨P, 4, none⟩ (.int .i64 near)).setCell ⟨P, 5, none⟩ (.int .i64 wi))) := hide ⟨(((((((K.bel.setCell x2 _).setCell x2 _).setCell x2 _).setCell x2 _).setCell x2 _).setCell x2 _)), (K.e0), (K.e1), (K.e2), (K.e3), (K.e4), (K.e5), (K.e6), (K.e7), (fun h => by obtain ⟨Q, z1, z2, z3⟩ := K.e8 h; have hne : P ≠ Q := fun e => ((K.ne h d9).symm) (by rw [x1, z1, e]); exact ⟨Q, z1, z2, ((((((z3.other (p := ⟨P, 0, none⟩) hne _).other (p := ⟨P, 1, none⟩) hne _).other (p := ⟨P, 2, none⟩) hne _).other (p := ⟨P, 3, none⟩) hne _).other (p := ⟨P, 4, none⟩) hne _).other (p := ⟨P, 5, none⟩) hne _)⟩), (fun _ => ⟨P, x1, x2, ((((((x3.set 0 (by simp) _).set 1 (by simp) _).set 2 (by simp) _).set 3 (by simp) _).set 4 (by simp) _).set 5 (by simp) _)⟩), (K.ne), (K.n10), (fun _ => d9)⟩
      clear K hd hl x3
      subst x1
      subst ec
      go_wp2_with fail
      exact ⟨rfl, PrRJ.mk (unhide HK) (by kernel_rfl)⟩
  rintro l a V hall ⟨v0, v1, v2, v3, v4, v5, v6, v7, p, q, rfl, K⟩
  obtain ⟨P, x1, x2, x3⟩ := K.e8 (hall 8 (by decide))
  obtain ⟨Q, z1, z2, z3⟩ := K.e9 (hall 9 (by decide))
  rw [hall 10 (by decide)] at x3
  rw [hall 11 (by decide)] at z3
  have K0 : Hid (Blk V P [.int .i64 ai, .int .i64 ah, .int .i64 ac, .int .i64 as_, .int .i64 near, .int .i64 wi]) := hide x3
  have K1 : Hid (Blk V Q [.int .i64 bi, .int .i64 bh, .int .i64 bc, .int .i64 bs, .int .i64 near, .int .i64 wi]) := hide z3
  have B0 := hide ((unhide B0).trans (K.bel.mono (unhide B0).size))
  subst x1
  subst z1
  clear K hall x2 x3 z2 z3
  obtain ⟨ι, fW, _, hb, hall⟩ := belClass V
  have HB := hide hb
  have HA := hide hall
  have c00 : ∀ x, (fW x).cell? ⟨P, 0, none⟩ = some (.int .i64 ai) := fun x => ((unhide K0).below (hb x)).c 0 (by simp)
  have c01 : ∀ x, (fW x).cell? ⟨P, 1, none⟩ = some (.int .i64 ah) := fun x => ((unhide K0).below (hb x)).c 1 (by simp)
  have c02 : ∀ x, (fW x).cell? ⟨P, 2, none⟩ = some (.int .i64 ac) := fun x => ((unhide K0).below (hb x)).c 2 (by simp)
  have c03 : ∀ x, (fW x).cell? ⟨P, 3, none⟩ = some (.int .i64 as_) := fun x => ((unhide K0).below (hb x)).c 3 (by simp)
  have c04 : ∀ x, (fW x).cell? ⟨P, 4, none⟩ = some (.int .i64 near) := fun x => ((unhide K0).below (hb x)).c 4 (by simp)
  have c05 : ∀ x, (fW x).cell? ⟨P, 5, none⟩ = some (.int .i64 wi) := fun x => ((unhide K0).below (hb x)).c 5 (by simp)
  have c10 : ∀ x, (fW x).cell? ⟨Q, 0, none⟩ = some (.int .i64 bi) := fun x => ((unhide K1).below (hb x)).c 0 (by simp)
  have c11 : ∀ x, (fW x).cell? ⟨Q, 1, none⟩ = some (.int .i64 bh) := fun x => ((unhide K1).below (hb x)).c 1 (by simp)
  have c12 : ∀ x, (fW x).cell? ⟨Q, 2, none⟩ = some (.int .i64 bc) := fun x => ((unhide K1).below (hb x)).c 2 (by simp)
  have c13 : ∀ x, (fW x).cell? ⟨Q, 3, none⟩ = some (.int .i64 bs) := fun x => ((unhide K1).below (hb x)).c 3 (by simp)
  have c14 : ∀ x, (fW x).cell? ⟨Q, 4, none⟩ = some (.int .i64 near) := fun x => ((unhide K1).below (hb x)).c 4 (by simp)
  have c15 : ∀ x, (fW x).cell? ⟨Q, 5, none⟩ = some (.int .i64 wi) := fun x => ((unhide K1).below (hb x)).c 5 (by simp)
  clear hb hall
  obtain ⟨x0, h0⟩ := (unhide HA) V (Below.refl _ _)
  rw [h0]
  clear h0
  rcases three (avB ai ah ac as_ && inB near 0 10000 && inB wi 1 300) (tcB bi bh bc far cl bs) (!(ai == bi)) with ⟨q1, hv⟩ | ⟨q1, q2, hv⟩ | ⟨q1, q2, q3, hv⟩ | ⟨q1, q2, q3, hv⟩
  · have hb := (prB_three ai ah ac as_ bi bh bc bs far cl near wi).trans hv
    have HX := hide ((pr_no hb).1.symm.trans (unhide HX))
    have HY := hide ((pr_no hb).2.symm.trans (unhide HY))
    have HZ := hide (hb.symm.trans (unhide HZ))
    clear hb hv
    go_wp2_with (first | (go_at_call 76; refine (belA2 (unhide HB) (unhide HA) (watcherOk_al _ _ _ _ _ _ _ (by exact q1))).mono ?_; rintro e _ ⟨rfl, y, rfl⟩))
    repeat (refine wp_region_bel (fun w' h => (unhide HA) w' ((unhide HB _).trans (h.mono (unhide HB _).size))) (by kernel_rfl) (by kernel_rfl) ?_; (repeat (go_big_quiet_step (first | (go_at_call 76; exact belA2 (unhide HB) (unhide HA) (watcherOk_al _ _ _ _ _ _ _ (by exact q1)))))); refine wpQuiet_nil ?_; rintro _ ⟨y, rfl⟩; (first | go_wp2_with (first | (go_at_call 76; refine (belA2 (unhide HB) (unhide HA) (watcherOk_al _ _ _ _ _ _ _ (by exact q1))).mono ?_; rintro e _ ⟨rfl, y, rfl⟩)) | go_wp2))
    refine bodyPost_ret (v := .tuple #[.int .i64 0, .int .i64 0, .bool false]) (by simp [results, Try.results32, go_sem]) rfl ⟨ret_iib (unhide HX) (unhide HY) (unhide HZ), ?_⟩
    exact (unhide B0).trans ((unhide HB _).mono (unhide B0).size)
  · have hb := (prB_three ai ah ac as_ bi bh bc bs far cl near wi).trans hv
    have HX := hide ((pr_no hb).1.symm.trans (unhide HX))
    have HY := hide ((pr_no hb).2.symm.trans (unhide HY))
    have HZ := hide (hb.symm.trans (unhide HZ))
    clear hb hv
    go_wp2_with (first | (go_at_call 76; refine (belA2 (unhide HB) (unhide HA) (watcherOk_al _ _ _ _ _ _ _ (by exact q1))).mono ?_; rintro e _ ⟨rfl, y, rfl⟩) | (go_at_call 77; refine (belQ (unhide HB) (unhide HA) (seenFrom_al _ _ _ _ _ _ _ _ _)).mono ?_; rintro e _ ⟨rfl, y, rfl⟩) | (go_at_call 78; refine (belA2 (unhide HB) (unhide HA) (seenOk_al _ _ _ _ _ _ _ (by exact q2))).mono ?_; rintro e _ ⟨rfl, y, rfl⟩))
    repeat (refine wp_region_bel (fun w' h => (unhide HA) w' ((unhide HB _).trans (h.mono (unhide HB _).size))) (by kernel_rfl) (by kernel_rfl) ?_; (repeat (go_big_quiet_step (first | (go_at_call 76; exact belA2 (unhide HB) (unhide HA) (watcherOk_al _ _ _ _ _ _ _ (by exact q1))) | (go_at_call 77; exact belQ (unhide HB) (unhide HA) (seenFrom_al _ _ _ _ _ _ _ _ _)) | (go_at_call 78; exact belA2 (unhide HB) (unhide HA) (seenOk_al _ _ _ _ _ _ _ (by exact q2)))))); refine wpQuiet_nil ?_; rintro _ ⟨y, rfl⟩; (first | go_wp2_with (first | (go_at_call 76; refine (belA2 (unhide HB) (unhide HA) (watcherOk_al _ _ _ _ _ _ _ (by exact q1))).mono ?_; rintro e _ ⟨rfl, y, rfl⟩) | (go_at_call 77; refine (belQ (unhide HB) (unhide HA) (seenFrom_al _ _ _ _ _ _ _ _ _)).mono ?_; rintro e _ ⟨rfl, y, rfl⟩) | (go_at_call 78; refine (belA2 (unhide HB) (unhide HA) (seenOk_al _ _ _ _ _ _ _ (by exact q2))).mono ?_; rintro e _ ⟨rfl, y, rfl⟩)) | go_wp2))
    refine bodyPost_ret (v := .tuple #[.int .i64 0, .int .i64 0, .bool false]) (by simp [results, Try.results32, go_sem]) rfl ⟨ret_iib (unhide HX) (unhide HY) (unhide HZ), ?_⟩
    exact (unhide B0).trans ((unhide HB _).mono (unhide B0).size)
  · have hb := (prB_three ai ah ac as_ bi bh bc bs far cl near wi).trans hv
    have HX := hide ((pr_no hb).1.symm.trans (unhide HX))
    have HY := hide ((pr_no hb).2.symm.trans (unhide HY))
    have HZ := hide (hb.symm.trans (unhide HZ))
    clear hb hv
    have e : ai = bi := by simpa using q3
    have e1 : (ai == bi) = true := by simpa using e
    have e2 := hide e
    clear q3 e
    go_wp2_with (first | (go_at_call 76; refine (belA2 (unhide HB) (unhide HA) (watcherOk_al _ _ _ _ _ _ _ (by exact q1))).mono ?_; rintro e _ ⟨rfl, y, rfl⟩) | (go_at_call 77; refine (belQ (unhide HB) (unhide HA) (seenFrom_al _ _ _ _ _ _ _ _ _)).mono ?_; rintro e _ ⟨rfl, y, rfl⟩) | (go_at_call 78; refine (belA2 (unhide HB) (unhide HA) (seenOk_al _ _ _ _ _ _ _ (by exact q2))).mono ?_; rintro e _ ⟨rfl, y, rfl⟩))
    repeat (refine wp_region_bel (fun w' h => (unhide HA) w' ((unhide HB _).trans (h.mono (unhide HB _).size))) (by kernel_rfl) (by kernel_rfl) ?_; (repeat (go_big_quiet_step (first | (go_at_call 76; exact belA2 (unhide HB) (unhide HA) (watcherOk_al _ _ _ _ _ _ _ (by exact q1))) | (go_at_call 77; exact belQ (unhide HB) (unhide HA) (seenFrom_al _ _ _ _ _ _ _ _ _)) | (go_at_call 78; exact belA2 (unhide HB) (unhide HA) (seenOk_al _ _ _ _ _ _ _ (by exact q2)))))); refine wpQuiet_nil ?_; rintro _ ⟨y, rfl⟩; (first | go_wp2_with (first | (go_at_call 76; refine (belA2 (unhide HB) (unhide HA) (watcherOk_al _ _ _ _ _ _ _ (by exact q1))).mono ?_; rintro e _ ⟨rfl, y, rfl⟩) | (go_at_call 77; refine (belQ (unhide HB) (unhide HA) (seenFrom_al _ _ _ _ _ _ _ _ _)).mono ?_; rintro e _ ⟨rfl, y, rfl⟩) | (go_at_call 78; refine (belA2 (unhide HB) (unhide HA) (seenOk_al _ _ _ _ _ _ _ (by exact q2))).mono ?_; rintro e _ ⟨rfl, y, rfl⟩)) | go_wp2))
    refine bodyPost_ret (v := .tuple #[.int .i64 0, .int .i64 0, .bool false]) (by simp [results, Try.results32, go_sem]) rfl ⟨ret_iib (unhide HX) (unhide HY) (unhide HZ), ?_⟩
    exact (unhide B0).trans ((unhide HB _).mono (unhide B0).size)
  · have hb := (prB_three ai ah ac as_ bi bh bc bs far cl near wi).trans hv
    have HZ := hide (hb.symm.trans (unhide HZ))
    have e1 : (ai == bi) = false := by simpa using q3
    have e3 : ¬ ai = bi := by simpa using q3
    clear q3 hv
    by_cases e4 : bi < ai
    · have H1 := hide ((pr_gt hb e4).2.symm.trans (unhide HY))
      have H2 := hide ((pr_gt hb e4).1.symm.trans (unhide HX))
      have e5 : ¬ ai < bi := by omega
      clear hb
      go_wp2_with (first | (go_at_call 76; refine (belA2 (unhide HB) (unhide HA) (watcherOk_al _ _ _ _ _ _ _ (by exact q1))).mono ?_; rintro e _ ⟨rfl, y, rfl⟩) | (go_at_call 77; refine (belQ (unhide HB) (unhide HA) (seenFrom_al _ _ _ _ _ _ _ _ _)).mono ?_; rintro e _ ⟨rfl, y, rfl⟩) | (go_at_call 78; refine (belA2 (unhide HB) (unhide HA) (seenOk_al _ _ _ _ _ _ _ (by exact q2))).mono ?_; rintro e _ ⟨rfl, y, rfl⟩) | (go_at_call 79; refine (belQ (unhide HB) (unhide HA) (turn_any bi bh bc bs ai ah ac as_ far cl near wi _ (unhide H1) (unhide H2))).mono ?_; rintro e _ ⟨rfl, y, rfl⟩))
      repeat (refine wp_region_bel (fun w' h => (unhide HA) w' ((unhide HB _).trans (h.mono (unhide HB _).size))) (by kernel_rfl) (by kernel_rfl) ?_; (repeat (go_big_quiet_step (first | (go_at_call 76; exact belA2 (unhide HB) (unhide HA) (watcherOk_al _ _ _ _ _ _ _ (by exact q1))) | (go_at_call 77; exact belQ (unhide HB) (unhide HA) (seenFrom_al _ _ _ _ _ _ _ _ _)) | (go_at_call 78; exact belA2 (unhide HB) (unhide HA) (seenOk_al _ _ _ _ _ _ _ (by exact q2))) | (go_at_call 79; exact belQ (unhide HB) (unhide HA) (turn_any bi bh bc bs ai ah ac as_ far cl near wi _ (unhide H1) (unhide H2)))))); refine wpQuiet_nil ?_; rintro _ ⟨y, rfl⟩; (first | go_wp2_with (first | (go_at_call 76; refine (belA2 (unhide HB) (unhide HA) (watcherOk_al _ _ _ _ _ _ _ (by exact q1))).mono ?_; rintro e _ ⟨rfl, y, rfl⟩) | (go_at_call 77; refine (belQ (unhide HB) (unhide HA) (seenFrom_al _ _ _ _ _ _ _ _ _)).mono ?_; rintro e _ ⟨rfl, y, rfl⟩) | (go_at_call 78; refine (belA2 (unhide HB) (unhide HA) (seenOk_al _ _ _ _ _ _ _ (by exact q2))).mono ?_; rintro e _ ⟨rfl, y, rfl⟩) | (go_at_call 79; refine (belQ (unhide HB) (unhide HA) (turn_any bi bh bc bs ai ah ac as_ far cl near wi _ (unhide H1) (unhide H2))).mono ?_; rintro e _ ⟨rfl, y, rfl⟩)) | go_wp2))
      refine bodyPost_ret (v := .tuple #[.int .i64 X, .int .i64 Y, .bool true]) (by simp [results, Try.results32, go_sem]) rfl ⟨ret_iib rfl rfl (unhide HZ), ?_⟩
      exact (unhide B0).trans ((unhide HB _).mono (unhide B0).size)
    · have H1 := hide ((pr_lt hb e4).1.symm.trans (unhide HX))
      have H2 := hide ((pr_lt hb e4).2.symm.trans (unhide HY))
      have e5 : ai < bi := by omega
      clear hb
      go_wp2_with (first | (go_at_call 76; refine (belA2 (unhide HB) (unhide HA) (watcherOk_al _ _ _ _ _ _ _ (by exact q1))).mono ?_; rintro e _ ⟨rfl, y, rfl⟩) | (go_at_call 77; refine (belQ (unhide HB) (unhide HA) (seenFrom_al _ _ _ _ _ _ _ _ _)).mono ?_; rintro e _ ⟨rfl, y, rfl⟩) | (go_at_call 78; refine (belA2 (unhide HB) (unhide HA) (seenOk_al _ _ _ _ _ _ _ (by exact q2))).mono ?_; rintro e _ ⟨rfl, y, rfl⟩) | (go_at_call 79; refine (belQ (unhide HB) (unhide HA) (turn_any ai ah ac as_ bi bh bc bs far cl near wi _ (unhide H1) (unhide H2))).mono ?_; rintro e _ ⟨rfl, y, rfl⟩))
      repeat (refine wp_region_bel (fun w' h => (unhide HA) w' ((unhide HB _).trans (h.mono (unhide HB _).size))) (by kernel_rfl) (by kernel_rfl) ?_; (repeat (go_big_quiet_step (first | (go_at_call 76; exact belA2 (unhide HB) (unhide HA) (watcherOk_al _ _ _ _ _ _ _ (by exact q1))) | (go_at_call 77; exact belQ (unhide HB) (unhide HA) (seenFrom_al _ _ _ _ _ _ _ _ _)) | (go_at_call 78; exact belA2 (unhide HB) (unhide HA) (seenOk_al _ _ _ _ _ _ _ (by exact q2))) | (go_at_call 79; exact belQ (unhide HB) (unhide HA) (turn_any ai ah ac as_ bi bh bc bs far cl near wi _ (unhide H1) (unhide H2)))))); refine wpQuiet_nil ?_; rintro _ ⟨y, rfl⟩; (first | go_wp2_with (first | (go_at_call 76; refine (belA2 (unhide HB) (unhide HA) (watcherOk_al _ _ _ _ _ _ _ (by exact q1))).mono ?_; rintro e _ ⟨rfl, y, rfl⟩) | (go_at_call 77; refine (belQ (unhide HB) (unhide HA) (seenFrom_al _ _ _ _ _ _ _ _ _)).mono ?_; rintro e _ ⟨rfl, y, rfl⟩) | (go_at_call 78; refine (belA2 (unhide HB) (unhide HA) (seenOk_al _ _ _ _ _ _ _ (by exact q2))).mono ?_; rintro e _ ⟨rfl, y, rfl⟩) | (go_at_call 79; refine (belQ (unhide HB) (unhide HA) (turn_any ai ah ac as_ bi bh bc bs far cl near wi _ (unhide H1) (unhide H2))).mono ?_; rintro e _ ⟨rfl, y, rfl⟩)) | go_wp2))
      refine bodyPost_ret (v := .tuple #[.int .i64 X, .int .i64 Y, .bool true]) (by simp [results, Try.results32, go_sem]) rfl ⟨ret_iib rfl rfl (unhide HZ), ?_⟩
      exact (unhide B0).trans ((unhide HB _).mono (unhide B0).size)

end Go.Proofs.Ytbaocifpifbldae
