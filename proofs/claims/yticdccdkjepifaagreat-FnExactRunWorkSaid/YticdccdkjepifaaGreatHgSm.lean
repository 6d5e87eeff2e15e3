/-
  What small functions of the program's hangar answer: plus, pass, placeOfItem, and the question by which doTask looks. Numbers of the clock are at most 1000000.
-/
import Derived.Test.YticdccdkjepifaaGreatMFlIn
import Derived.Test.YticdccdkjepifaaGreatMTaAlert
import Derived.Test.YticdccdkjepifaaGreatRegInv
import Derived.Deep.Cut
namespace Go.Proofs.YticdccdkjepifaaGreat
open Go Go.RowKit

set_option maxRecDepth 20000 in
set_option maxHeartbeats 1000000 in
theorem plus_any (a b c x y z : Int) (w : World) (e1 : 0 ≤ a ∧ a ≤ 1000000) (e2 : 0 ≤ b ∧ b ≤ 1000000) (e3 : 0 ≤ c ∧ c ≤ 1000000) (e4 : 0 ≤ x ∧ x ≤ 1000) (e5 : 0 ≤ y ∧ y ≤ 1000) (e6 : 0 ≤ z ∧ z ≤ 1000) :
    Calls Tryz.prog 88 #[.agg #[.int .i64 a, .int .i64 b, .int .i64 c], .agg #[.int .i64 x, .int .i64 y, .int .i64 z]] w fun e w' => e = .returned (.agg #[.int .i64 (a + x), .int .i64 (b + y), .int .i64 (c + z)]) ∧ Below w.heap.size w w' := by
  go_enter Tryz.func88, Tryz.ntmps88
  go_wp2_with fail
  refine bodyPost_ret (v := .agg #[.int .i64 (a + x), .int .i64 (b + y), .int .i64 (c + z)]) (by simp [results, Tryz.results88, go_sem]) rfl ⟨rfl, ?_⟩
  repeat (first | exact bel2 _ _ | exact bel3 _ _ _ | refine Below.setCell ?_ (by simp; try omega) _)
set_option maxRecDepth 20000 in
set_option maxHeartbeats 1000000 in
theorem tkClo_any (x : Ts) (nm : ByteArray) (g : Nat) (w : World) (hg : Blk w g [.string nm]) :
    Calls Tryz.prog 84 #[.agg #[.string x.nm, .int .i64 x.h, .int .i64 x.c, .int .i64 x.d, .int .i64 x.dh, .int .i64 x.dc, .int .i64 x.dd], .pointer (some ⟨g, 0, none⟩)] w fun e w' => e = .returned (.bool (qTs nm x)) ∧ Below w.heap.size w w' := by
  have c0 : w.cell? ⟨g, 0, none⟩ = some (.string nm) := hg.c 0 (by simp)
  have hlt := hg.lt
  have c1 := (World.cell?_alloc_lt w (Obj.cells #[.string x.nm, .int .i64 x.h, .int .i64 x.c, .int .i64 x.d, .int .i64 x.dh, .int .i64 x.dc, .int .i64 x.dd] 90) ⟨g, 0, none⟩ hlt).trans c0
  have HP : Hid (qTs nm x = decide (x.nm = nm)) := hide rfl
  obtain ⟨X, hX⟩ : ∃ z, x.nm = z := ⟨_, rfl⟩
  rw [hX] at HP c1 ⊢
  by_cases e : X = nm
  · subst e
    clear hX c0 hg
    go_enter Tryz.func84, Tryz.ntmps84
    go_wp2
    go_ret
    exact ⟨ret_bool (by rw [unhide HP]; simp), bel1 _⟩
  · have d := txl_no e
    have HD : Hid (decide (X = nm) = false) := hide (decide_eq_false e)
    clear hX c0 hg e
    go_enter Tryz.func84, Tryz.ntmps84
    go_wp2
    go_ret
    exact ⟨ret_bool (by rw [unhide HP, unhide HD]), bel1 _⟩
structure PaR (w : World) (V0 : World) (G : Nat) (a1 : Option Addr) (a2 : Option Addr) (a3 : Option Addr) (c1 : Nat) (c2 : Nat) (c3 : Nat) (ts : List Ts) (cs : List Cr) (ds : List Df) (nh : Int) (nc : Int) (nd : Int) (bh : Int) (bc : Int) (bd : Int) (t0 t1 t2 t3 t4 t5 t6 t7 t8 : Bool) (v0 v1 v2 v3 v4 v5 v6 v7 : Value) (W : World) : Prop where
  bel : Below w.heap.size w W
  sz : V0.heap.size ≤ W.heap.size
  kh : Blk W (G) [.int .i32 1, .int .u32 0, .slice a1 ts.length c1, .slice a2 cs.length c2, .slice a3 ds.length c3, .int .i64 nh, .int .i64 nc, .int .i64 nd]
  kb : Blk W (w.heap.size) [.int .i64 bh, .int .i64 bc, .int .i64 bd]
  e0 : t0 = true → v0 = .pointer (some ⟨G, 0, none⟩)
  e1 : t1 = true → v1 = .pointer (some ⟨G, 0, none⟩)
  e2 : t2 = true → v2 = .pointer (some ⟨G, 2, none⟩)
  e3 : t3 = true → v3 = .pointer (some ⟨G, 5, none⟩)
  e4 : t4 = true → v4 = .agg #[.int .i64 nh, .int .i64 nc, .int .i64 nd]
  e5 : t5 = true → v5 = .agg #[.int .i64 bh, .int .i64 bc, .int .i64 bd]
  e6 : t6 = true → v6 = .agg #[.int .i64 (nh + bh), .int .i64 (nc + bc), .int .i64 (nd + bd)]
  e7 : t7 = true → ∃ P, v7 = .pointer (some ⟨P, 0, none⟩) ∧ V0.heap.size ≤ P ∧ Blk W P (bif t8 then [.int .i64 (nh + bh), .int .i64 (nc + bc), .int .i64 (nd + bd)] else [.int .i64 0, .int .i64 0, .int .i64 0])
  n8 : t8 = true → t7 = true
theorem PaR.below {w : World} {V0 : World} {G : Nat} {a1 : Option Addr} {a2 : Option Addr} {a3 : Option Addr} {c1 : Nat} {c2 : Nat} {c3 : Nat} {ts : List Ts} {cs : List Cr} {ds : List Df} {nh : Int} {nc : Int} {nd : Int} {bh : Int} {bc : Int} {bd : Int} {t0 t1 t2 t3 t4 t5 t6 t7 t8 : Bool} {v0 v1 v2 v3 v4 v5 v6 v7 : Value} {W W' : World} (K : PaR w V0 G a1 a2 a3 c1 c2 c3 ts cs ds nh nc nd bh bc bd t0 t1 t2 t3 t4 t5 t6 t7 t8 v0 v1 v2 v3 v4 v5 v6 v7 W) (hbw : Below W.heap.size W W') : PaR w V0 G a1 a2 a3 c1 c2 c3 ts cs ds nh nc nd bh bc bd t0 t1 t2 t3 t4 t5 t6 t7 t8 v0 v1 v2 v3 v4 v5 v6 v7 W' :=
  ⟨K.bel.trans (hbw.mono K.bel.size), Nat.le_trans K.sz hbw.size, K.kh.below hbw, K.kb.below hbw, K.e0, K.e1, K.e2, K.e3, K.e4, K.e5, K.e6, fun h => by obtain ⟨P, x1, x2, x3⟩ := K.e7 h; exact ⟨P, x1, x2, x3.below hbw⟩, K.n8⟩
def PaRJ (w : World) (V0 : World) (G : Nat) (a1 : Option Addr) (a2 : Option Addr) (a3 : Option Addr) (c1 : Nat) (c2 : Nat) (c3 : Nat) (ts : List Ts) (cs : List Cr) (ds : List Df) (nh : Int) (nc : Int) (nd : Int) (bh : Int) (bc : Int) (bd : Int) (A0 : Act) (l : Nat → Bool) (a : Act) (V : World) : Prop := ∃ (v0 v1 v2 v3 v4 v5 v6 v7 : Value), a = ((((((((A0.put (some 6) v0).put (some 7) v1).put (some 8) v2).put (some 9) v3).put (some 10) v4).put (some 11) v5).put (some 12) v6).put (some 5) v7) ∧ PaR w V0 G a1 a2 a3 c1 c2 c3 ts cs ds nh nc nd bh bc bd (l 0) (l 1) (l 2) (l 3) (l 4) (l 5) (l 6) (l 7) (l 8) v0 v1 v2 v3 v4 v5 v6 v7 V
theorem PaRJ.mk {w : World} {V0 : World} {G : Nat} {a1 : Option Addr} {a2 : Option Addr} {a3 : Option Addr} {c1 : Nat} {c2 : Nat} {c3 : Nat} {ts : List Ts} {cs : List Cr} {ds : List Df} {nh : Int} {nc : Int} {nd : Int} {bh : Int} {bc : Int} {bd : Int} {A0 : Act} {l : Nat → Bool} {a : Act} {V : World} {v0 v1 v2 v3 v4 v5 v6 v7 : Value} (K : PaR w V0 G a1 a2 a3 c1 c2 c3 ts cs ds nh nc nd bh bc bd (l 0) (l 1) (l 2) (l 3) (l 4) (l 5) (l 6) (l 7) (l 8) v0 v1 v2 v3 v4 v5 v6 v7 V) (hq : a = ((((((((A0.put (some 6) v0).put (some 7) v1).put (some 8) v2).put (some 9) v3).put (some 10) v4).put (some 11) v5).put (some 12) v6).put (some 5) v7)) : PaRJ w V0 G a1 a2 a3 c1 c2 c3 ts cs ds nh nc nd bh bc bd A0 l a V := ⟨v0, v1, v2, v3, v4, v5, v6, v7, hq, K⟩
set_option maxRecDepth 20000 in
set_option maxHeartbeats 2000000 in
theorem pass_yes (base G : Nat) (a1 a2 a3 : Option Addr) (c1 c2 c3 : Nat) (ts : List Ts) (cs : List Cr) (ds : List Df) (nh nc nd : Int) (bh bc bd : Int) (w : World) (h : Hg w base G 1 a1 a2 a3 c1 c2 c3 ts cs ds nh nc nd) (n1 : 0 ≤ nh ∧ nh ≤ 1000000) (n2 : 0 ≤ nc ∧ nc ≤ 1000000) (n3 : 0 ≤ nd ∧ nd ≤ 1000000) (m1 : 0 ≤ bh ∧ bh ≤ 1000) (m2 : 0 ≤ bc ∧ bc ≤ 1000) (m3 : 0 ≤ bd ∧ bd ≤ 1000) (q : ckB (nh + bh) (nc + bc) (nd + bd) = true) :
    Calls Tryz.prog 61 #[.pointer (some ⟨G, 0, none⟩), .agg #[.int .i64 bh, .int .i64 bc, .int .i64 bd]] w fun e w' => e = .returned (.bool true) ∧ Hg w' base G 1 a1 a2 a3 c1 c2 c3 ts cs ds (nh + bh) (nc + bc) (nd + bd) ∧ Aps (hz G a1 a2 a3) w w' := by
  obtain ⟨V0, hV0⟩ : ∃ V, V = w.alloc (Obj.cells #[.int .i64 bh, .int .i64 bc, .int .i64 bd] 35) := ⟨_, rfl⟩
  have bV : Below w.heap.size w V0 := by rw [hV0]; exact bel1 _
  have KH := hide (h.blk.below bV)
  have KB : Hid (Blk V0 w.heap.size [.int .i64 bh, .int .i64 bc, .int .i64 bd]) := hide (by rw [hV0]; exact Blk.new _ _)
  have BW := hide bV
  have LG : Hid (G < V0.heap.size) := hide (unhide KH).lt
  have LB : Hid (w.heap.size < V0.heap.size) := hide (unhide KB).lt
  have LW : Hid (w.heap.size ≤ V0.heap.size) := hide bV.size
  have HH := hide h
  have HW := hide hV0
  clear h hV0 bV
  go_enter Tryz.func61, Tryz.ntmps61
  go_wp2_with fail
  rw [← unhide HW]
  clear HW
  refine wp_region_flagsA (by kernel_rfl) (by kernel_rfl) (PaRJ w V0 G a1 a2 a3 c1 c2 c3 ts cs ds nh nc nd bh bc bd) ?_ ?_ ?_
  · exact PaRJ.mk (v0 := undef) (v1 := undef) (v2 := undef) (v3 := undef) (v4 := undef) (v5 := undef) (v6 := undef) (v7 := undef) ⟨(unhide BW).trans (bel0d' 1), Nat.le_refl _, ((unhide KH).below (bel0d 1) : _), ((unhide KB).below (bel0d 1) : _), (fun h => by cases h), (fun h => by cases h), (fun h => by cases h), (fun h => by cases h), (fun h => by cases h), (fun h => by cases h), (fun h => by cases h), (fun h => by cases h), (fun h => by cases h)⟩ (by kernel_rfl)
  rotate_left 1
  · rintro l a V i o ho hl hd ⟨v0, v1, v2, v3, v4, v5, v6, v7, rfl, K⟩
    have hi : i < 9 := (Array.getElem?_eq_some_iff.1 ho).1
    rcases (show i = 0 ∨ i = 1 ∨ i = 2 ∨ i = 3 ∨ i = 4 ∨ i = 5 ∨ i = 6 ∨ i = 7 ∨ i = 8 from by omega) with rfl | rfl | rfl | rfl | rfl | rfl | rfl | rfl | rfl
    · simp at ho
      subst ho
      have HK : Hid (PaR w V0 G a1 a2 a3 c1 c2 c3 ts cs ds nh nc nd bh bc bd true (l 1) (l 2) (l 3) (l 4) (l 5) (l 6) (l 7) (l 8) (.pointer (some ⟨G, 0, none⟩)) v1 v2 v3 v4 v5 v6 v7 V) := hide ⟨(K.bel), (K.sz), (K.kh), (K.kb), (fun _ => rfl), (K.e1), (K.e2), (K.e3), (K.e4), (K.e5), (K.e6), (K.e7), (K.n8)⟩
      clear K hd hl
      go_wp2_with fail
      exact ⟨rfl, PaRJ.mk (unhide HK) (by kernel_rfl)⟩
    · simp at ho
      subst ho
      have d0 : l 0 = true := hd ⟨0, .data⟩ (by simp) rfl
      have x0 := K.e0 d0
      subst x0
      have HK : Hid (PaR w V0 G a1 a2 a3 c1 c2 c3 ts cs ds nh nc nd bh bc bd (l 0) true (l 2) (l 3) (l 4) (l 5) (l 6) (l 7) (l 8) (.pointer (some ⟨G, 0, none⟩)) (.pointer (some ⟨G, 0, none⟩)) v2 v3 v4 v5 v6 v7 V) := hide ⟨(K.bel), (K.sz), (K.kh), (K.kb), (K.e0), (fun _ => rfl), (K.e2), (K.e3), (K.e4), (K.e5), (K.e6), (K.e7), (K.n8)⟩
      clear K hd hl
      go_wp2_with fail
      exact ⟨rfl, PaRJ.mk (unhide HK) (by kernel_rfl)⟩
    · simp at ho
      subst ho
      have d1 : l 1 = true := hd ⟨1, .data⟩ (by simp) rfl
      have x1 := K.e1 d1
      subst x1
      have HK : Hid (PaR w V0 G a1 a2 a3 c1 c2 c3 ts cs ds nh nc nd bh bc bd (l 0) (l 1) true (l 3) (l 4) (l 5) (l 6) (l 7) (l 8) v0 (.pointer (some ⟨G, 0, none⟩)) (.pointer (some ⟨G, 2, none⟩)) v3 v4 v5 v6 v7 V) := hide ⟨(K.bel), (K.sz), (K.kh), (K.kb), (K.e0), (K.e1), (fun _ => rfl), (K.e3), (K.e4), (K.e5), (K.e6), (K.e7), (K.n8)⟩
      clear K hd hl
      go_wp2_with fail
      exact ⟨rfl, PaRJ.mk (unhide HK) (by kernel_rfl)⟩
    · simp at ho
      subst ho
      have d2 : l 2 = true := hd ⟨2, .data⟩ (by simp) rfl
      have x2 := K.e2 d2
      subst x2
      have HK : Hid (PaR w V0 G a1 a2 a3 c1 c2 c3 ts cs ds nh nc nd bh bc bd (l 0) (l 1) (l 2) true (l 4) (l 5) (l 6) (l 7) (l 8) v0 v1 (.pointer (some ⟨G, 2, none⟩)) (.pointer (some ⟨G, 5, none⟩)) v4 v5 v6 v7 V) := hide ⟨(K.bel), (K.sz), (K.kh), (K.kb), (K.e0), (K.e1), (K.e2), (fun _ => rfl), (K.e4), (K.e5), (K.e6), (K.e7), (K.n8)⟩
      clear K hd hl
      go_wp2_with fail
      exact ⟨rfl, PaRJ.mk (unhide HK) (by kernel_rfl)⟩
    · simp at ho
      subst ho
      have d3 : l 3 = true := hd ⟨3, .data⟩ (by simp) rfl
      have x3 := K.e3 d3
      subst x3
      have yy0 : V.cell? ⟨G, 5, none⟩ = some (.int .i64 nh) := K.kh.c 5 (by simp)
      have yy1 : V.cell? ⟨G, 6, none⟩ = some (.int .i64 nc) := K.kh.c 6 (by simp)
      have yy2 : V.cell? ⟨G, 7, none⟩ = some (.int .i64 nd) := K.kh.c 7 (by simp)
      have HK : Hid (PaR w V0 G a1 a2 a3 c1 c2 c3 ts cs ds nh nc nd bh bc bd (l 0) (l 1) (l 2) (l 3) true (l 5) (l 6) (l 7) (l 8) v0 v1 v2 (.pointer (some ⟨G, 5, none⟩)) (.agg #[.int .i64 nh, .int .i64 nc, .int .i64 nd]) v5 v6 v7 V) := hide ⟨(K.bel), (K.sz), (K.kh), (K.kb), (K.e0), (K.e1), (K.e2), (K.e3), (fun _ => rfl), (K.e5), (K.e6), (K.e7), (K.n8)⟩
      clear K hd hl
      go_wp2_with fail
      exact ⟨rfl, PaRJ.mk (unhide HK) (by kernel_rfl)⟩
    · simp at ho
      subst ho
      have yy0 : V.cell? ⟨w.heap.size, 0, none⟩ = some (.int .i64 bh) := K.kb.c 0 (by simp)
      have yy1 : V.cell? ⟨w.heap.size, 1, none⟩ = some (.int .i64 bc) := K.kb.c 1 (by simp)
      have yy2 : V.cell? ⟨w.heap.size, 2, none⟩ = some (.int .i64 bd) := K.kb.c 2 (by simp)
      have HK : Hid (PaR w V0 G a1 a2 a3 c1 c2 c3 ts cs ds nh nc nd bh bc bd (l 0) (l 1) (l 2) (l 3) (l 4) true (l 6) (l 7) (l 8) v0 v1 v2 v3 v4 (.agg #[.int .i64 bh, .int .i64 bc, .int .i64 bd]) v6 v7 V) := hide ⟨(K.bel), (K.sz), (K.kh), (K.kb), (K.e0), (K.e1), (K.e2), (K.e3), (K.e4), (fun _ => rfl), (K.e6), (K.e7), (K.n8)⟩
      clear K hd hl
      go_wp2_with fail
      exact ⟨rfl, PaRJ.mk (unhide HK) (by kernel_rfl)⟩
    · simp at ho
      subst ho
      have d4 : l 4 = true := hd ⟨4, .data⟩ (by simp) rfl
      have x4 := K.e4 d4
      subst x4
      have d5 : l 5 = true := hd ⟨5, .data⟩ (by simp) rfl
      have x5 := K.e5 d5
      subst x5
      have HK0 := hide K
      clear K hd hl
      go_wp2_with (go_at_call 88; refine (plus_any _ _ _ _ _ _ _ (by omega) (by omega) (by omega) (by omega) (by omega) (by omega)).mono ?_; rintro e V2 ⟨rfl, b2⟩; have K := (unhide HK0).below b2; have HK : Hid (PaR w V0 G a1 a2 a3 c1 c2 c3 ts cs ds nh nc nd bh bc bd (l 0) (l 1) (l 2) (l 3) (l 4) (l 5) true (l 7) (l 8) v0 v1 v2 v3 (.agg #[.int .i64 nh, .int .i64 nc, .int .i64 nd]) (.agg #[.int .i64 bh, .int .i64 bc, .int .i64 bd]) (.agg #[.int .i64 (nh + bh), .int .i64 (nc + bc), .int .i64 (nd + bd)]) v7 V2) := hide ⟨(K.bel), (K.sz), (K.kh), (K.kb), (K.e0), (K.e1), (K.e2), (K.e3), (K.e4), (K.e5), (fun _ => rfl), (K.e7), (K.n8)⟩; clear K b2)
      exact ⟨rfl, PaRJ.mk (unhide HK) (by kernel_rfl)⟩
    · simp at ho
      subst ho
      have nz : l 8 = false := by cases c : l 8; rfl; have := K.n8 c; rw [hl] at this; cases this
      have K2 := K.below (bel1 (Obj.cells #[.int .i64 0, .int .i64 0, .int .i64 0] 35))
      have HK : Hid (PaR w V0 G a1 a2 a3 c1 c2 c3 ts cs ds nh nc nd bh bc bd (l 0) (l 1) (l 2) (l 3) (l 4) (l 5) (l 6) true (l 8) v0 v1 v2 v3 v4 v5 v6 (.pointer (some ⟨V.heap.size, 0, none⟩)) (V.alloc (Obj.cells #[.int .i64 0, .int .i64 0, .int .i64 0] 35))) := hide ⟨(K2.bel), (K2.sz), (K2.kh), (K2.kb), (K2.e0), (K2.e1), (K2.e2), (K2.e3), (K2.e4), (K2.e5), (K2.e6), (fun _ => ⟨_, rfl, K.sz, by rw [nz]; exact Blk.new _ _⟩), (fun h => by cases nz.symm.trans h)⟩
      clear K K2 hd hl nz
      go_wp2_with fail
      exact ⟨rfl, PaRJ.mk (unhide HK) (by kernel_rfl)⟩
    · simp at ho
      subst ho
      have d6 : l 6 = true := hd ⟨6, .data⟩ (by simp) rfl
      have x6 := K.e6 d6
      subst x6
      have da : l 7 = true := hd ⟨7, .data⟩ (by simp) rfl
      obtain ⟨P, x1, x2, x3⟩ := K.e7 da
      rw [hl] at x3
      have yy0 : V.cell? ⟨P, 0, none⟩ = some (.int .i64 0) := x3.c 0 (by simp)
      have ff0 : V.frozen? ⟨P, 0, none⟩ = false := x3.f 0 (by simp)
      have yy1 : V.cell? ⟨P, 1, none⟩ = some (.int .i64 0) := x3.c 1 (by simp)
      have ff1 : V.frozen? ⟨P, 1, none⟩ = false := x3.f 1 (by simp)
      have yy2 : V.cell? ⟨P, 2, none⟩ = some (.int .i64 0) := x3.c 2 (by simp)
      have ff2 : V.frozen? ⟨P, 2, none⟩ = false := x3.f 2 (by simp)
      have HK : Hid (PaR w V0 G a1 a2 a3 c1 c2 c3 ts cs ds nh nc nd bh bc bd (l 0) (l 1) (l 2) (l 3) (l 4) (l 5) (l 6) (l 7) true v0 v1 v2 v3 v4 v5 (.agg #[.int .i64 (nh + bh), .int .i64 (nc + bc), .int .i64 (nd + bd)]) v7 (((V.setCell ⟨P, 0, none⟩ (.int .i64 (nh + bh))).setCell ⟨P, 1, none⟩ (.int .i64 (nc + bc))).setCell ⟨P, 2, none⟩ (.int .i64 (nd + bd)))) := hide ⟨((((K.bel.setCell (p := ⟨P, 0, none⟩) (Nat.le_trans (unhide LW) x2) _).setCell (p := ⟨P, 1, none⟩) (Nat.le_trans (unhide LW) x2) _).setCell (p := ⟨P, 2, none⟩) (Nat.le_trans (unhide LW) x2) _)), (by simpa [World.setCell] using K.sz), ((((K.kh.other (p := ⟨P, 0, none⟩) (by have := unhide LG; have := unhide LB; show P ≠ G; omega) _).other (p := ⟨P, 1, none⟩) (by have := unhide LG; have := unhide LB; show P ≠ G; omega) _).other (p := ⟨P, 2, none⟩) (by have := unhide LG; have := unhide LB; show P ≠ G; omega) _)), ((((K.kb.other (p := ⟨P, 0, none⟩) (by have := unhide LG; have := unhide LB; show P ≠ w.heap.size; omega) _).other (p := ⟨P, 1, none⟩) (by have := unhide LG; have := unhide LB; show P ≠ w.heap.size; omega) _).other (p := ⟨P, 2, none⟩) (by have := unhide LG; have := unhide LB; show P ≠ w.heap.size; omega) _)), (K.e0), (K.e1), (K.e2), (K.e3), (K.e4), (K.e5), (K.e6), (fun _ => ⟨P, x1, x2, (((x3.set 0 (by simp) _).set 1 (by simp) _).set 2 (by simp) _)⟩), (fun _ => da)⟩
      clear K hd hl x3
      subst x1
      go_wp2_with fail
      exact ⟨rfl, PaRJ.mk (unhide HK) (by kernel_rfl)⟩
  rintro l a V1 hall ⟨v0, v1, v2, v3, v4, v5, v6, v7, rfl, K⟩
  have g0 := hall 0 (by decide)
  have g1 := hall 1 (by decide)
  have g2 := hall 2 (by decide)
  have g3 := hall 3 (by decide)
  have g4 := hall 4 (by decide)
  have g5 := hall 5 (by decide)
  have g6 := hall 6 (by decide)
  have g7 := hall 7 (by decide)
  have g8 := hall 8 (by decide)
  clear hall
  have px0 := K.e0 g0
  have px1 := K.e1 g1
  have px2 := K.e2 g2
  have px3 := K.e3 g3
  have px4 := K.e4 g4
  have px5 := K.e5 g5
  have px6 := K.e6 g6
  obtain ⟨P7, px7, pl7, pb7⟩ := K.e7 g7
  rw [g8] at pb7
  have PB7 : Hid (Blk V1 P7 [.int .i64 (nh + bh), .int .i64 (nc + bc), .int .i64 (nd + bd)]) := hide pb7
  have KBh : Hid (Blk V1 (G) [.int .i32 1, .int .u32 0, .slice a1 ts.length c1, .slice a2 cs.length c2, .slice a3 ds.length c3, .int .i64 nh, .int .i64 nc, .int .i64 nd]) := hide K.kh
  have KBb : Hid (Blk V1 (w.heap.size) [.int .i64 bh, .int .i64 bc, .int .i64 bd]) := hide K.kb
  have KBEL : Hid (Below w.heap.size w V1) := hide K.bel
  have KSZ : Hid (V0.heap.size ≤ V1.heap.size) := hide K.sz
  clear K g0 g1 g2 g3 g4 g5 g6 g7 g8 pb7
  subst px0
  subst px1
  subst px2
  subst px3
  subst px4
  subst px5
  subst px6
  subst px7
  have HH1 := hide ((unhide HH).below (unhide KBEL))
  have p0 : V1.cell? ⟨P7, 0, none⟩ = some (.int .i64 (nh + bh)) := (unhide PB7).c 0 (by simp)
  have p1 : V1.cell? ⟨P7, 1, none⟩ = some (.int .i64 (nc + bc)) := (unhide PB7).c 1 (by simp)
  have p2 : V1.cell? ⟨P7, 2, none⟩ = some (.int .i64 (nd + bd)) := (unhide PB7).c 2 (by simp)
  go_wp2_with fail
  refine (implClockOk_is _ _ _ _ q).mono ?_
  rintro e V2 ⟨rfl, b2⟩
  have HH2 := hide ((unhide HH1).below b2)
  have B2 := hide ((unhide KBEL).trans (b2.mono (unhide KBEL).size))
  have PB2 := hide ((unhide PB7).below b2)
  clear b2 p0 p1 p2 HH1
  have p0 : V2.cell? ⟨P7, 0, none⟩ = some (.int .i64 (nh + bh)) := (unhide PB2).c 0 (by simp)
  have p1 : V2.cell? ⟨P7, 1, none⟩ = some (.int .i64 (nc + bc)) := (unhide PB2).c 1 (by simp)
  have p2 : V2.cell? ⟨P7, 2, none⟩ = some (.int .i64 (nd + bd)) := (unhide PB2).c 2 (by simp)
  have g5 : V2.cell? ⟨G, 5, none⟩ = some (.int .i64 nh) := (unhide HH2).blk.c 5 (by simp)
  have f5 : V2.frozen? ⟨G, 5, none⟩ = false := (unhide HH2).blk.f 5 (by simp)
  have g6 : V2.cell? ⟨G, 6, none⟩ = some (.int .i64 nc) := (unhide HH2).blk.c 6 (by simp)
  have f6 : V2.frozen? ⟨G, 6, none⟩ = false := (unhide HH2).blk.f 6 (by simp)
  have g7 : V2.cell? ⟨G, 7, none⟩ = some (.int .i64 nd) := (unhide HH2).blk.c 7 (by simp)
  have f7 : V2.frozen? ⟨G, 7, none⟩ = false := (unhide HH2).blk.f 7 (by simp)
  have HN := hide ((unhide HH2).now (nh + bh) (nc + bc) (nd + bd))
  have hlo := (unhide HH2).low
  have hsz := (unhide HH).size
  go_wp2_with fail
  go_ret
  exact ⟨rfl, unhide HN, (((Aps.of_below (unhide B2)).setS (p := ⟨G, 5, none⟩) hz_G _).setS (p := ⟨G, 6, none⟩) hz_G _).setS (p := ⟨G, 7, none⟩) hz_G _⟩
set_option maxRecDepth 20000 in
set_option maxHeartbeats 2000000 in
theorem pass_no (base G : Nat) (a1 a2 a3 : Option Addr) (c1 c2 c3 : Nat) (ts : List Ts) (cs : List Cr) (ds : List Df) (nh nc nd : Int) (bh bc bd : Int) (w : World) (h : Hg w base G 1 a1 a2 a3 c1 c2 c3 ts cs ds nh nc nd) (n1 : 0 ≤ nh ∧ nh ≤ 1000000) (n2 : 0 ≤ nc ∧ nc ≤ 1000000) (n3 : 0 ≤ nd ∧ nd ≤ 1000000) (m1 : 0 ≤ bh ∧ bh ≤ 1000) (m2 : 0 ≤ bc ∧ bc ≤ 1000) (m3 : 0 ≤ bd ∧ bd ≤ 1000) (q : ckB (nh + bh) (nc + bc) (nd + bd) = false) :
    Calls Tryz.prog 61 #[.pointer (some ⟨G, 0, none⟩), .agg #[.int .i64 bh, .int .i64 bc, .int .i64 bd]] w fun e w' => e = .returned (.bool false) ∧ Hg w' base G 1 a1 a2 a3 c1 c2 c3 ts cs ds nh nc nd ∧ Aps (hz G a1 a2 a3) w w' := by
  obtain ⟨V0, hV0⟩ : ∃ V, V = w.alloc (Obj.cells #[.int .i64 bh, .int .i64 bc, .int .i64 bd] 35) := ⟨_, rfl⟩
  have bV : Below w.heap.size w V0 := by rw [hV0]; exact bel1 _
  have KH := hide (h.blk.below bV)
  have KB : Hid (Blk V0 w.heap.size [.int .i64 bh, .int .i64 bc, .int .i64 bd]) := hide (by rw [hV0]; exact Blk.new _ _)
  have BW := hide bV
  have LG : Hid (G < V0.heap.size) := hide (unhide KH).lt
  have LB : Hid (w.heap.size < V0.heap.size) := hide (unhide KB).lt
  have LW : Hid (w.heap.size ≤ V0.heap.size) := hide bV.size
  have HH := hide h
  have HW := hide hV0
  clear h hV0 bV
  go_enter Tryz.func61, Tryz.ntmps61
  go_wp2_with fail
  rw [← unhide HW]
  clear HW
  refine wp_region_flagsA (by kernel_rfl) (by kernel_rfl) (PaRJ w V0 G a1 a2 a3 c1 c2 c3 ts cs ds nh nc nd bh bc bd) ?_ ?_ ?_
  · exact PaRJ.mk (v0 := undef) (v1 := undef) (v2 := undef) (v3 := undef) (v4 := undef) (v5 := undef) (v6 := undef) (v7 := undef) ⟨(unhide BW).trans (bel0d' 1), Nat.le_refl _, ((unhide KH).below (bel0d 1) : _), ((unhide KB).below (bel0d 1) : _), (fun h => by cases h), (fun h => by cases h), (fun h => by cases h), (fun h => by cases h), (fun h => by cases h), (fun h => by cases h), (fun h => by cases h), (fun h => by cases h), (fun h => by cases h)⟩ (by kernel_rfl)
  rotate_left 1
  · rintro l a V i o ho hl hd ⟨v0, v1, v2, v3, v4, v5, v6, v7, rfl, K⟩
    have hi : i < 9 := (Array.getElem?_eq_some_iff.1 ho).1
    rcases (show i = 0 ∨ i = 1 ∨ i = 2 ∨ i = 3 ∨ i = 4 ∨ i = 5 ∨ i = 6 ∨ i = 7 ∨ i = 8 from by omega) with rfl | rfl | rfl | rfl | rfl | rfl | rfl | rfl | rfl
    · simp at ho
      subst ho
      have HK : Hid (PaR w V0 G a1 a2 a3 c1 c2 c3 ts cs ds nh nc nd bh bc bd true (l 1) (l 2) (l 3) (l 4) (l 5) (l 6) (l 7) (l 8) (.pointer (some ⟨G, 0, none⟩)) v1 v2 v3 v4 v5 v6 v7 V) := hide ⟨(K.bel), (K.sz), (K.kh), (K.kb), (fun _ => rfl), (K.e1), (K.e2), (K.e3), (K.e4), (K.e5), (K.e6), (K.e7), (K.n8)⟩
      clear K hd hl
      go_wp2_with fail
      exact ⟨rfl, PaRJ.mk (unhide HK) (by kernel_rfl)⟩
    · simp at ho
      subst ho
      have d0 : l 0 = true := hd ⟨0, .data⟩ (by simp) rfl
      have x0 := K.e0 d0
      subst x0
      have HK : Hid (PaR w V0 G a1 a2 a3 c1 c2 c3 ts cs ds nh nc nd bh bc bd (l 0) true (l 2) (l 3) (l 4) (l 5) (l 6) (l 7) (l 8) (.pointer (some ⟨G, 0, none⟩)) (.pointer (some ⟨G, 0, none⟩)) v2 v3 v4 v5 v6 v7 V) := hide ⟨(K.bel), (K.sz), (K.kh), (K.kb), (K.e0), (fun _ => rfl), (K.e2), (K.e3), (K.e4), (K.e5), (K.e6), (K.e7), (K.n8)⟩
      clear K hd hl
      go_wp2_with fail
      exact ⟨rfl, PaRJ.mk (unhide HK) (by kernel_rfl)⟩
    · simp at ho
      subst ho
      have d1 : l 1 = true := hd ⟨1, .data⟩ (by simp) rfl
      have x1 := K.e1 d1
      subst x1
      have HK : Hid (PaR w V0 G a1 a2 a3 c1 c2 c3 ts cs ds nh nc nd bh bc bd (l 0) (l 1) true (l 3) (l 4) (l 5) (l 6) (l 7) (l 8) v0 (.pointer (some ⟨G, 0, none⟩)) (.pointer (some ⟨G, 2, none⟩)) v3 v4 v5 v6 v7 V) := hide ⟨(K.bel), (K.sz), (K.kh), (K.kb), (K.e0), (K.e1), (fun _ => rfl), (K.e3), (K.e4), (K.e5), (K.e6), (K.e7), (K.n8)⟩
      clear K hd hl
      go_wp2_with fail
      exact ⟨rfl, PaRJ.mk (unhide HK) (by kernel_rfl)⟩
    · simp at ho
      subst ho
      have d2 : l 2 = true := hd ⟨2, .data⟩ (by simp) rfl
      have x2 := K.e2 d2
      subst x2
      have HK : Hid (PaR w V0 G a1 a2 a3 c1 c2 c3 ts cs ds nh nc nd bh bc bd (l 0) (l 1) (l 2) true (l 4) (l 5) (l 6) (l 7) (l 8) v0 v1 (.pointer (some ⟨G, 2, none⟩)) (.pointer (some ⟨G, 5, none⟩)) v4 v5 v6 v7 V) := hide ⟨(K.bel), (K.sz), (K.kh), (K.kb), (K.e0), (K.e1), (K.e2), (fun _ => rfl), (K.e4), (K.e5), (K.e6), (K.e7), (K.n8)⟩
      clear K hd hl
      go_wp2_with fail
      exact ⟨rfl, PaRJ.mk (unhide HK) (by kernel_rfl)⟩
    · simp at ho
      subst ho
      have d3 : l 3 = true := hd ⟨3, .data⟩ (by simp) rfl
      have x3 := K.e3 d3
      subst x3
      have yy0 : V.cell? ⟨G, 5, none⟩ = some (.int .i64 nh) := K.kh.c 5 (by simp)
      have yy1 : V.cell? ⟨G, 6, none⟩ = some (.int .i64 nc) := K.kh.c 6 (by simp)
      have yy2 : V.cell? ⟨G, 7, none⟩ = some (.int .i64 nd) := K.kh.c 7 (by simp)
      have HK : Hid (PaR w V0 G a1 a2 a3 c1 c2 c3 ts cs ds nh nc nd bh bc bd (l 0) (l 1) (l 2) (l 3) true (l 5) (l 6) (l 7) (l 8) v0 v1 v2 (.pointer (some ⟨G, 5, none⟩)) (.agg #[.int .i64 nh, .int .i64 nc, .int .i64 nd]) v5 v6 v7 V) := hide ⟨(K.bel), (K.sz), (K.kh), (K.kb), (K.e0), (K.e1), (K.e2), (K.e3), (fun _ => rfl), (K.e5), (K.e6), (K.e7), (K.n8)⟩
      clear K hd hl
      go_wp2_with fail
      exact ⟨rfl, PaRJ.mk (unhide HK) (by kernel_rfl)⟩
    · simp at ho
      subst ho
      have yy0 : V.cell? ⟨w.heap.size, 0, none⟩ = some (.int .i64 bh) := K.kb.c 0 (by simp)
      have yy1 : V.cell? ⟨w.heap.size, 1, none⟩ = some (.int .i64 bc) := K.kb.c 1 (by simp)
      have yy2 : V.cell? ⟨w.heap.size, 2, none⟩ = some (.int .i64 bd) := K.kb.c 2 (by simp)
      have HK : Hid (PaR w V0 G a1 a2 a3 c1 c2 c3 ts cs ds nh nc nd bh bc bd (l 0) (l 1) (l 2) (l 3) (l 4) true (l 6) (l 7) (l 8) v0 v1 v2 v3 v4 (.agg #[.int .i64 bh, .int .i64 bc, .int .i64 bd]) v6 v7 V) := hide ⟨(K.bel), (K.sz), (K.kh), (K.kb), (K.e0), (K.e1), (K.e2), (K.e3), (K.e4), (fun _ => rfl), (K.e6), (K.e7), (K.n8)⟩
      clear K hd hl
      go_wp2_with fail
      exact ⟨rfl, PaRJ.mk (unhide HK) (by kernel_rfl)⟩
    · simp at ho
      subst ho
      have d4 : l 4 = true := hd ⟨4, .data⟩ (by simp) rfl
      have x4 := K.e4 d4
      subst x4
      have d5 : l 5 = true := hd ⟨5, .data⟩ (by simp) rfl
      have x5 := K.e5 d5
      subst x5
      have HK0 := hide K
      clear K hd hl
      go_wp2_with (go_at_call 88; refine (plus_any _ _ _ _ _ _ _ (by omega) (by omega) (by omega) (by omega) (by omega) (by omega)).mono ?_; rintro e V2 ⟨rfl, b2⟩; have K := (unhide HK0).below b2; have HK : Hid (PaR w V0 G a1 a2 a3 c1 c2 c3 ts cs ds nh nc nd bh bc bd (l 0) (l 1) (l 2) (l 3) (l 4) (l 5) true (l 7) (l 8) v0 v1 v2 v3 (.agg #[.int .i64 nh, .int .i64 nc, .int .i64 nd]) (.agg #[.int .i64 bh, .int .i64 bc, .int .i64 bd]) (.agg #[.int .i64 (nh + bh), .int .i64 (nc + bc), .int .i64 (nd + bd)]) v7 V2) := hide ⟨(K.bel), (K.sz), (K.kh), (K.kb), (K.e0), (K.e1), (K.e2), (K.e3), (K.e4), (K.e5), (fun _ => rfl), (K.e7), (K.n8)⟩; clear K b2)
      exact ⟨rfl, PaRJ.mk (unhide HK) (by kernel_rfl)⟩
    · simp at ho
      subst ho
      have nz : l 8 = false := by cases c : l 8; rfl; have := K.n8 c; rw [hl] at this; cases this
      have K2 := K.below (bel1 (Obj.cells #[.int .i64 0, .int .i64 0, .int .i64 0] 35))
      have HK : Hid (PaR w V0 G a1 a2 a3 c1 c2 c3 ts cs ds nh nc nd bh bc bd (l 0) (l 1) (l 2) (l 3) (l 4) (l 5) (l 6) true (l 8) v0 v1 v2 v3 v4 v5 v6 (.pointer (some ⟨V.heap.size, 0, none⟩)) (V.alloc (Obj.cells #[.int .i64 0, .int .i64 0, .int .i64 0] 35))) := hide ⟨(K2.bel), (K2.sz), (K2.kh), (K2.kb), (K2.e0), (K2.e1), (K2.e2), (K2.e3), (K2.e4), (K2.e5), (K2.e6), (fun _ => ⟨_, rfl, K.sz, by rw [nz]; exact Blk.new _ _⟩), (fun h => by cases nz.symm.trans h)⟩
      clear K K2 hd hl nz
      go_wp2_with fail
      exact ⟨rfl, PaRJ.mk (unhide HK) (by kernel_rfl)⟩
    · simp at ho
      subst ho
      have d6 : l 6 = true := hd ⟨6, .data⟩ (by simp) rfl
      have x6 := K.e6 d6
      subst x6
      have da : l 7 = true := hd ⟨7, .data⟩ (by simp) rfl
      obtain ⟨P, x1, x2, x3⟩ := K.e7 da
      rw [hl] at x3
      have yy0 : V.cell? ⟨P, 0, none⟩ = some (.int .i64 0) := x3.c 0 (by simp)
      have ff0 : V.frozen? ⟨P, 0, none⟩ = false := x3.f 0 (by simp)
      have yy1 : V.cell? ⟨P, 1, none⟩ = some (.int .i64 0) := x3.c 1 (by simp)
      have ff1 : V.frozen? ⟨P, 1, none⟩ = false := x3.f 1 (by simp)
      have yy2 : V.cell? ⟨P, 2, none⟩ = some (.int .i64 0) := x3.c 2 (by simp)
      have ff2 : V.frozen? ⟨P, 2, none⟩ = false := x3.f 2 (by simp)
      have HK : Hid (PaR w V0 G a1 a2 a3 c1 c2 c3 ts cs ds nh nc nd bh bc bd (l 0) (l 1) (l 2) (l 3) (l 4) (l 5) (l 6) (l 7) true v0 v1 v2 v3 v4 v5 (.agg #[.int .i64 (nh + bh), .int .i64 (nc + bc), .int .i64 (nd + bd)]) v7 (((V.setCell ⟨P, 0, none⟩ (.int .i64 (nh + bh))).setCell ⟨P, 1, none⟩ (.int .i64 (nc + bc))).setCell ⟨P, 2, none⟩ (.int .i64 (nd + bd)))) := hide ⟨((((K.bel.setCell (p := ⟨P, 0, none⟩) (Nat.le_trans (unhide LW) x2) _).setCell (p := ⟨P, 1, none⟩) (Nat.le_trans (unhide LW) x2) _).setCell (p := ⟨P, 2, none⟩) (Nat.le_trans (unhide LW) x2) _)), (by simpa [World.setCell] using K.sz), ((((K.kh.other (p := ⟨P, 0, none⟩) (by have := unhide LG; have := unhide LB; show P ≠ G; omega) _).other (p := ⟨P, 1, none⟩) (by have := unhide LG; have := unhide LB; show P ≠ G; omega) _).other (p := ⟨P, 2, none⟩) (by have := unhide LG; have := unhide LB; show P ≠ G; omega) _)), ((((K.kb.other (p := ⟨P, 0, none⟩) (by have := unhide LG; have := unhide LB; show P ≠ w.heap.size; omega) _).other (p := ⟨P, 1, none⟩) (by have := unhide LG; have := unhide LB; show P ≠ w.heap.size; omega) _).other (p := ⟨P, 2, none⟩) (by have := unhide LG; have := unhide LB; show P ≠ w.heap.size; omega) _)), (K.e0), (K.e1), (K.e2), (K.e3), (K.e4), (K.e5), (K.e6), (fun _ => ⟨P, x1, x2, (((x3.set 0 (by simp) _).set 1 (by simp) _).set 2 (by simp) _)⟩), (fun _ => da)⟩
      clear K hd hl x3
      subst x1
      go_wp2_with fail
      exact ⟨rfl, PaRJ.mk (unhide HK) (by kernel_rfl)⟩
  rintro l a V1 hall ⟨v0, v1, v2, v3, v4, v5, v6, v7, rfl, K⟩
  have g0 := hall 0 (by decide)
  have g1 := hall 1 (by decide)
  have g2 := hall 2 (by decide)
  have g3 := hall 3 (by decide)
  have g4 := hall 4 (by decide)
  have g5 := hall 5 (by decide)
  have g6 := hall 6 (by decide)
  have g7 := hall 7 (by decide)
  have g8 := hall 8 (by decide)
  clear hall
  have px0 := K.e0 g0
  have px1 := K.e1 g1
  have px2 := K.e2 g2
  have px3 := K.e3 g3
  have px4 := K.e4 g4
  have px5 := K.e5 g5
  have px6 := K.e6 g6
  obtain ⟨P7, px7, pl7, pb7⟩ := K.e7 g7
  rw [g8] at pb7
  have PB7 : Hid (Blk V1 P7 [.int .i64 (nh + bh), .int .i64 (nc + bc), .int .i64 (nd + bd)]) := hide pb7
  have KBh : Hid (Blk V1 (G) [.int .i32 1, .int .u32 0, .slice a1 ts.length c1, .slice a2 cs.length c2, .slice a3 ds.length c3, .int .i64 nh, .int .i64 nc, .int .i64 nd]) := hide K.kh
  have KBb : Hid (Blk V1 (w.heap.size) [.int .i64 bh, .int .i64 bc, .int .i64 bd]) := hide K.kb
  have KBEL : Hid (Below w.heap.size w V1) := hide K.bel
  have KSZ : Hid (V0.heap.size ≤ V1.heap.size) := hide K.sz
  clear K g0 g1 g2 g3 g4 g5 g6 g7 g8 pb7
  subst px0
  subst px1
  subst px2
  subst px3
  subst px4
  subst px5
  subst px6
  subst px7
  have HH1 := hide ((unhide HH).below (unhide KBEL))
  have p0 : V1.cell? ⟨P7, 0, none⟩ = some (.int .i64 (nh + bh)) := (unhide PB7).c 0 (by simp)
  have p1 : V1.cell? ⟨P7, 1, none⟩ = some (.int .i64 (nc + bc)) := (unhide PB7).c 1 (by simp)
  have p2 : V1.cell? ⟨P7, 2, none⟩ = some (.int .i64 (nd + bd)) := (unhide PB7).c 2 (by simp)
  go_wp2_with fail
  refine (implClockOk_is _ _ _ _ q).mono ?_
  rintro e V2 ⟨rfl, b2⟩
  have HH2 := hide ((unhide HH1).below b2)
  have B2 := hide ((unhide KBEL).trans (b2.mono (unhide KBEL).size))
  have PB2 := hide ((unhide PB7).below b2)
  clear b2 p0 p1 p2 HH1
  have hsz := (unhide HH).size
  go_wp2_with fail
  go_ret
  exact ⟨rfl, unhide HH2, Aps.of_below (unhide B2)⟩
theorem atI_yes {ds : List Df} {it : Int} {k : Nat} (hk : k < ds.length) (hj : ∀ j, j < k → (elAt ds j).i < it) (e : (elAt ds k).i = it) : plR it ds = k ∧ atI ds it = true := by
  have p := plR_at it ds k (by omega) hj (.inr (by omega))
  exact ⟨p, by rw [atI, p]; exact decide_eq_true ⟨hk, e⟩⟩
theorem atI_no {ds : List Df} {it : Int} {k : Nat} (hk : k ≤ ds.length) (hj : ∀ j, j < k → (elAt ds j).i < it) (e : k = ds.length ∨ (it < (elAt ds k).i)) : plR it ds = k ∧ atI ds it = false := by
  have p := plR_at it ds k hk hj (by rcases e with e | e; exact .inl e; exact .inr (by omega))
  exact ⟨p, by rw [atI, p]; exact decide_eq_false (by rintro ⟨a, b⟩; rcases e with e | e <;> omega)⟩
theorem ret_pl {x y : Nat} {b c : Bool} (h : x = y) (k : b = c) : Ending.returned (.tuple #[.int .i64 (x : Int), .bool b]) = .returned (.tuple #[.int .i64 (y : Int), .bool c]) := by rw [h, k]
set_option maxRecDepth 20000 in
set_option maxHeartbeats 2000000 in
theorem placeOf_any (base G : Nat) (a1 a2 a3 : Option Addr) (c1 c2 c3 : Nat) (ts : List Ts) (cs : List Cr) (ds : List Df) (nh nc nd : Int) (it : Int) (w : World) (h : Hg w base G 1 a1 a2 a3 c1 c2 c3 ts cs ds nh nc nd) (hl : ds.length ≤ 1000) :
    Calls Tryz.prog 85 #[.pointer (some ⟨G, 0, none⟩), .int .i64 it] w fun e w' => e = .returned (.tuple #[.int .i64 (plR it ds : Int), .bool (atI ds it)]) ∧ Below w.heap.size w w' := by
  have g4 : w.cell? ⟨G, 4, none⟩ = some (.slice a3 ds.length c3) := h.blk.c 4 (by simp)
  have HH := hide h
  have HR := hide h.own.o3.row
  clear h
  go_enter Tryz.func85, Tryz.ntmps85
  go_wp2_with fail
  go_loopw [6] (fun i wr => ∃ k : Nat, i = .int .i64 k ∧ k ≤ ds.length ∧ wr = w ∧ Hid (∀ j, j < k → (elAt ds j).i < it)) (fun i _ => ds.length - (intOf i).toNat)
  case atStart => exact ⟨0, rfl, Nat.zero_le _, rfl, hide (fun j hj => by omega)⟩
  case round =>
    obtain ⟨k, rfl, hk, hwr, AL⟩ := hrel
    subst hwr
    by_cases hlt : k < ds.length
    · obtain ⟨bb, off, rfl, hc⟩ := (unhide HR).at_ k hlt
      have s1 : wr.cell? ⟨bb, off + k * 3 + 1, none⟩ = some (.int .i64 (elAt ds k).i) := hc 1 (by omega)
      have hi1 : (k : Int) < (ds.length : Int) := by omega
      have hi0 : (0 : Int) ≤ (k : Int) := by omega
      obtain ⟨X, hX⟩ : ∃ x, (elAt ds k).i = x := ⟨_, rfl⟩
      rw [hX] at s1
      have HX := hide hX
      clear hc hX
      by_cases q : X < it
      · have NX : Hid (∀ j, j < k + 1 → (elAt ds j).i < it) := hide (fun j hj => by
          by_cases e3 : j = k
          · rw [e3, unhide HX]; exact q
          · exact (unhide AL) j (by omega))
        clear AL
        go_wp2_with fail
        go_roundw
        case rel => exact ⟨k + 1, by go_num, by omega, by first | rfl | trivial, NX⟩
        case measure => simp [intOf]; omega
      · go_wp2_with fail
        obtain ⟨ιw, fW, _, hb, hall⟩ := belClass wr
        have HB := hide hb
        have HA := hide hall
        have d4 : ∀ z, (fW z).cell? ⟨G, 4, none⟩ = some (.slice (some ⟨bb, off, none⟩) ds.length c3) := fun z => ((hb z).cell (block_lt_of_cell g4)).trans g4
        have d1 : ∀ z, (fW z).cell? ⟨bb, off + k * 3 + 1, none⟩ = some (.int .i64 X) := fun z => ((hb z).cell (block_lt_of_cell s1)).trans s1
        clear hb hall
        obtain ⟨x0, h0⟩ := (unhide HA) wr (Below.refl _ _)
        have H0 := hide h0
        rw [h0]
        clear h0
        by_cases q2 : X = it
        · have HE := hide (atI_yes hlt (unhide AL) (by rw [unhide HX]; exact q2))
          have d2 : decide (X = it) = true := by simpa using q2
          refine wp_region_bel (fun w' h => (unhide HA) w' ((unhide HB _).trans (h.mono (unhide HB _).size))) (by kernel_rfl) (by kernel_rfl) ?_
          (repeat (go_big_quiet_step (fail)))
          refine wpQuiet_nil ?_
          rintro _ ⟨y, rfl⟩
          go_wp2_with fail
          go_ret2
          have bz := unhide HB y
          exact ⟨ret_pl (unhide HE).1.symm (by rw [(unhide HE).2] <;> first | rfl | simpa using q2), bz⟩
        · have HE := hide (atI_no (it := it) hk (unhide AL) (.inr (by rw [unhide HX]; omega)))
          have d2 : decide (X = it) = false := by simpa using q2
          refine wp_region_bel (fun w' h => (unhide HA) w' ((unhide HB _).trans (h.mono (unhide HB _).size))) (by kernel_rfl) (by kernel_rfl) ?_
          (repeat (go_big_quiet_step (fail)))
          refine wpQuiet_nil ?_
          rintro _ ⟨y, rfl⟩
          go_wp2_with fail
          go_ret2
          have bz := unhide HB y
          exact ⟨ret_pl (unhide HE).1.symm (by rw [(unhide HE).2] <;> first | rfl | simpa using q2), bz⟩
    · have hi1 : ¬ (k : Int) < (ds.length : Int) := by omega
      have HE := hide (atI_no (it := it) hk (unhide AL) (.inl (by omega)))
      go_wp2_with fail
      obtain ⟨ιw, fW, _, hb, hall⟩ := belClass wr
      have HB := hide hb
      have HA := hide hall
      have d4 : ∀ z, (fW z).cell? ⟨G, 4, none⟩ = some (.slice a3 ds.length c3) := fun z => ((hb z).cell (block_lt_of_cell g4)).trans g4
      clear hb hall
      obtain ⟨x0, h0⟩ := (unhide HA) wr (Below.refl _ _)
      rw [h0]
      clear h0
      refine wp_region_bel (fun w' h => (unhide HA) w' ((unhide HB _).trans (h.mono (unhide HB _).size))) (by kernel_rfl) (by kernel_rfl) ?_
      (repeat (go_big_quiet_step (fail)))
      refine wpQuiet_nil ?_
      rintro _ ⟨y, rfl⟩
      go_wp2_with fail
      go_ret2
      have bz := unhide HB y
      exact ⟨ret_pl (unhide HE).1.symm (by rw [(unhide HE).2]), bz⟩

end Go.Proofs.YticdccdkjepifaaGreat
