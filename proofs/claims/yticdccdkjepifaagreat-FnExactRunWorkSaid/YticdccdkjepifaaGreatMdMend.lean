/-
  What the model does with a deed: a defect mended, and a deed of no kind. The fleet is so, it lies in memory of its own, its texts can be there.
-/
import Derived.Test.YticdccdkjepifaaGreatMdTsk
import Derived.Test.YticdccdkjepifaaGreatAppM
namespace Go.Proofs.YticdccdkjepifaaGreat
open Go Go.RowKit

theorem RowE.takeN {α : Type} [Inhabited α] {K : Nat} {cells : α → Nat → Value} {w : World} {a : Option Addr} {len k : Nat} {ps : List α} (h : RowE K cells w a len ps) (hk : k ≤ len) : RowE K cells w a k (ps.take k) := by
  have hl := h.len_eq
  have hs := h.small
  refine ⟨by simp; omega, by omega, fun i hi => ?_⟩
  obtain ⟨b, off, e, hc⟩ := h.at_ i (by omega)
  refine ⟨b, off, e, fun q hq => ?_⟩
  rw [hc q hq]
  simp [elAt, hi]
theorem RowE.dropN {α : Type} [Inhabited α] {K : Nat} {cells : α → Nat → Value} {w : World} {g len k : Nat} {ps : List α} (h : RowE K cells w (some ⟨g, 0, none⟩) len ps) (hk : k ≤ len) : RowE K cells w (some ⟨g, k * K, none⟩) (len - k) (ps.drop k) := by
  have hl := h.len_eq
  have hs := h.small
  refine ⟨by simp; omega, by omega, fun i hi => ?_⟩
  obtain ⟨b, off, e, hc⟩ := h.at_ (k + i) (by omega)
  simp only [Option.some.injEq, Addr.mk.injEq, and_true] at e
  obtain ⟨rfl, rfl⟩ := e
  refine ⟨_, _, rfl, fun q hq => ?_⟩
  rw [show k * K + i * K + q = 0 + (k + i) * K + q by rw [Nat.add_mul]; omega, hc q hq]
  simp [elAt, List.getElem?_drop]
structure MmR (w : World) (g1 : Nat) (p1 : Nat) (g2 : Nat) (p2 : Nat) (g3 : Nat) (p3 : Nat) (ts : List Ts) (cs : List Cr) (ds : List Df) (nh : Int) (nc : Int) (nd : Int) (k : Nat) (j : Nat) (M : Nat) (A : Option Addr) (N : Nat) (C : Nat) (t0 t1 t2 t3 t4 t5 t6 t7 t8 t9 t10 t11 t12 t13 : Bool) (v0 v1 v2 v3 v4 v5 v6 v7 v8 v9 v10 v11 v12 : Value) (W : World) : Prop where
  bel : Below w.heap.size w W
  kf : t13 = false → Blk W (w.heap.size) [.slice (some ⟨g1, 0, none⟩) ts.length p1, .slice (some ⟨g2, 0, none⟩) cs.length p2, .slice (some ⟨g3, 0, none⟩) ds.length p3, .int .i64 nh, .int .i64 nc, .int .i64 nd]
  kr : Blk W (w.heap.size + 1 + 1) [.slice none 0 0, .slice none 0 0, .slice none 0 0, .int .i64 0, .int .i64 0, .int .i64 0]
  e1 : t1 = true → v1 = .pointer (some ⟨w.heap.size, 2, none⟩)
  e2 : t2 = true → v2 = .slice (some ⟨g3, 0, none⟩) ds.length p3
  e3 : t3 = true → v3 = .int .i64 (k : Int)
  e4 : t4 = true → v4 = .slice (some ⟨g3, 0, none⟩) k p3
  e6 : t6 = true → v6 = .pointer (some ⟨w.heap.size, 2, none⟩)
  e7 : t7 = true → v7 = .slice (some ⟨g3, 0, none⟩) ds.length p3
  e8 : t8 = true → v8 = .int .i64 (k : Int)
  e9 : t9 = true → v9 = .int .i64 (j : Int)
  e10 : t10 = true → v10 = .slice A N C
  e12 : t12 = true → v12 = .pointer (some ⟨w.heap.size, 2, none⟩)
  a0 : t0 = true → t5 = false → ∃ vb, v0 = .slice (some ⟨vb, 0, none⟩) 0 0 ∧ OwnE 3 dfC W (w.heap.size + 3) 94 (.slice (some ⟨vb, 0, none⟩) 0 0) []
  a5 : t5 = true → t11 = false → ∃ g c, v5 = .slice (some ⟨g, 0, none⟩) k c ∧ OwnE 3 dfC W (w.heap.size + 3) 94 (.slice (some ⟨g, 0, none⟩) k c) (ds.take k)
  a11 : t11 = true → ∃ g c, v11 = .slice (some ⟨g, 0, none⟩) M c ∧ OwnE 3 dfC W (w.heap.size + 3) 94 (.slice (some ⟨g, 0, none⟩) M c) (ds.take k ++ ds.drop j) ∧ (t13 = true → Blk W (w.heap.size) [.slice (some ⟨g1, 0, none⟩) ts.length p1, .slice (some ⟨g2, 0, none⟩) cs.length p2, .slice (some ⟨g, 0, none⟩) M c, .int .i64 nh, .int .i64 nc, .int .i64 nd])
  c13_11 : t13 = true → t11 = true
  c11_5 : t11 = true → t5 = true
  c11_10 : t11 = true → t10 = true
  c10_7 : t10 = true → t7 = true
  c5_4 : t5 = true → t4 = true
  c5_0 : t5 = true → t0 = true
  c4_2 : t4 = true → t2 = true
def MmRJ (w : World) (g1 : Nat) (p1 : Nat) (g2 : Nat) (p2 : Nat) (g3 : Nat) (p3 : Nat) (ts : List Ts) (cs : List Cr) (ds : List Df) (nh : Int) (nc : Int) (nd : Int) (k : Nat) (j : Nat) (M : Nat) (A : Option Addr) (N : Nat) (C : Nat) (A0 : Act) (l : Nat → Bool) (a : Act) (V : World) : Prop := ∃ (v0 v1 v2 v3 v4 v5 v6 v7 v8 v9 v10 v11 v12 : Value), a = (((((((((((((A0.put (some 135) v0).put (some 136) v1).put (some 137) v2).put (some 138) v3).put (some 139) v4).put (some 140) v5).put (some 141) v6).put (some 142) v7).put (some 143) v8).put (some 144) v9).put (some 145) v10).put (some 146) v11).put (some 147) v12) ∧ MmR w g1 p1 g2 p2 g3 p3 ts cs ds nh nc nd k j M A N C (l 0) (l 1) (l 2) (l 3) (l 4) (l 5) (l 6) (l 7) (l 8) (l 9) (l 10) (l 11) (l 12) (l 13) v0 v1 v2 v3 v4 v5 v6 v7 v8 v9 v10 v11 v12 V
theorem MmRJ.mk {w : World} {g1 : Nat} {p1 : Nat} {g2 : Nat} {p2 : Nat} {g3 : Nat} {p3 : Nat} {ts : List Ts} {cs : List Cr} {ds : List Df} {nh : Int} {nc : Int} {nd : Int} {k : Nat} {j : Nat} {M : Nat} {A : Option Addr} {N : Nat} {C : Nat} {A0 : Act} {l : Nat → Bool} {a : Act} {V : World} {v0 v1 v2 v3 v4 v5 v6 v7 v8 v9 v10 v11 v12 : Value} (K : MmR w g1 p1 g2 p2 g3 p3 ts cs ds nh nc nd k j M A N C (l 0) (l 1) (l 2) (l 3) (l 4) (l 5) (l 6) (l 7) (l 8) (l 9) (l 10) (l 11) (l 12) (l 13) v0 v1 v2 v3 v4 v5 v6 v7 v8 v9 v10 v11 v12 V) (hq : a = (((((((((((((A0.put (some 135) v0).put (some 136) v1).put (some 137) v2).put (some 138) v3).put (some 139) v4).put (some 140) v5).put (some 141) v6).put (some 142) v7).put (some 143) v8).put (some 144) v9).put (some 145) v10).put (some 146) v11).put (some 147) v12)) : MmRJ w g1 p1 g2 p2 g3 p3 ts cs ds nh nc nd k j M A N C A0 l a V := ⟨v0, v1, v2, v3, v4, v5, v6, v7, v8, v9, v10, v11, v12, hq, K⟩
set_option maxRecDepth 20000 in
set_option maxHeartbeats 16000000 in
theorem md_4 (base g1 p1 g2 p2 g3 p3 : Nat) (ts : List Ts) (cs : List Cr) (ds : List Df) (nh nc nd : Int) (n : ByteArray) (i m : Int) (w : World) (ho : FlOwn w base (some ⟨g1, 0, none⟩) (some ⟨g2, 0, none⟩) (some ⟨g3, 0, none⟩) ts.length p1 cs.length p2 ds.length p3 ts cs ds) (ff : FitF ⟨ts, cs, ds, nh, nc, nd⟩) (hf : flB ⟨ts, cs, ds, nh, nc, nd⟩ = true) :
    Calls Tryz.prog 49 #[.agg #[.slice (some ⟨g1, 0, none⟩) ts.length p1, .slice (some ⟨g2, 0, none⟩) cs.length p2, .slice (some ⟨g3, 0, none⟩) ds.length p3, .int .i64 nh, .int .i64 nc, .int .i64 nd], .agg #[.int .i64 4, .string n, .int .i64 i, .int .i64 m]] w fun e w' => ∃ v, e = .returned (.tuple #[v, .bool (dwB ⟨ts, cs, ds, nh, nc, nd⟩ ⟨4, n, i, m⟩)]) ∧ MdO w' base v (dwF ⟨ts, cs, ds, nh, nc, nd⟩ ⟨4, n, i, m⟩) (dwB ⟨ts, cs, ds, nh, nc, nd⟩ ⟨4, n, i, m⟩) ∧ MdG base g1 w w' := by
  have E1 : Hid (∀ k, k < ds.length → (∀ j, j < k → (elAt ds j).i < i) → (elAt ds k).i = i → dwB ⟨ts, cs, ds, nh, nc, nd⟩ ⟨4, n, i, m⟩ = true ∧ dwF ⟨ts, cs, ds, nh, nc, nd⟩ ⟨4, n, i, m⟩ = ⟨ts, cs, ds.take k ++ ds.drop (k + 1), nh, nc, nd⟩) := hide (fun k hk hj e => by
    obtain ⟨a1, a2⟩ := atI_yes hk hj e
    rw [(dw4 hf).1, (dw4 hf).2]
    simp only [a1, a2, if_true]
    exact ⟨trivial, trivial⟩)
  have E2 : Hid (∀ k, k ≤ ds.length → (∀ j, j < k → (elAt ds j).i < i) → (k = ds.length ∨ i < (elAt ds k).i) → dwB ⟨ts, cs, ds, nh, nc, nd⟩ ⟨4, n, i, m⟩ = false) := hide (fun k hk hj e => by
    rw [(dw4 hf).1]
    exact (atI_no hk hj e).2)
  obtain ⟨f', hf'⟩ : ∃ x, dwF ⟨ts, cs, ds, nh, nc, nd⟩ ⟨4, n, i, m⟩ = x := ⟨_, rfl⟩
  obtain ⟨B, hB⟩ : ∃ x, dwB ⟨ts, cs, ds, nh, nc, nd⟩ ⟨4, n, i, m⟩ = x := ⟨_, rfl⟩
  rw [hf', hB]
  simp only [hf', hB] at E1 E2
  clear hf' hB
  have hl : ds.length ≤ 20 := by obtain ⟨_, _, _, f4⟩ := flB_facts hf; obtain ⟨k2, _, _⟩ := listI_facts f4; exact k2
  have hsz : base ≤ w.heap.size := by have := ho.o1.lies g1 rfl; omega
  obtain ⟨V0, hV0⟩ : ∃ V, V = ((w.alloc (Obj.cells #[.slice (some ⟨g1, 0, none⟩) ts.length p1, .slice (some ⟨g2, 0, none⟩) cs.length p2, .slice (some ⟨g3, 0, none⟩) ds.length p3, .int .i64 nh, .int .i64 nc, .int .i64 nd] 37)).alloc (Obj.cells #[.int .i64 4, .string n, .int .i64 i, .int .i64 m] 60)).alloc (Obj.cells #[.slice none 0 0, .slice none 0 0, .slice none 0 0, .int .i64 0, .int .i64 0, .int .i64 0] 37) := ⟨_, rfl⟩
  have bV : Below w.heap.size w V0 := by rw [hV0]; exact bel3 _ _ _
  have KF0 : Hid (Blk V0 (w.heap.size) [.slice (some ⟨g1, 0, none⟩) ts.length p1, .slice (some ⟨g2, 0, none⟩) cs.length p2, .slice (some ⟨g3, 0, none⟩) ds.length p3, .int .i64 nh, .int .i64 nc, .int .i64 nd]) := hide (by rw [hV0]; exact blkAt3_0)
  have KD0 : Hid (Blk V0 (w.heap.size + 1) [.int .i64 4, .string n, .int .i64 i, .int .i64 m]) := hide (by rw [hV0]; exact blkAt3_1)
  have KR0 : Hid (Blk V0 (w.heap.size + 1 + 1) [.slice none 0 0, .slice none 0 0, .slice none 0 0, .int .i64 0, .int .i64 0, .int .i64 0]) := hide (by rw [hV0]; exact blkAt3_2)
  have B0 := hide bV
  have HO := hide ho
  have HW := hide hV0
  have FF := hide ff
  have y0 : V0.cell? ⟨w.heap.size + 1, 0, none⟩ = some (.int .i64 4) := (unhide KD0).c 0 (by simp)
  have y1 : V0.cell? ⟨w.heap.size + 1, 1, none⟩ = some (.string n) := (unhide KD0).c 1 (by simp)
  have y2 : V0.cell? ⟨w.heap.size + 1, 2, none⟩ = some (.int .i64 i) := (unhide KD0).c 2 (by simp)
  have y3 : V0.cell? ⟨w.heap.size + 1, 3, none⟩ = some (.int .i64 m) := (unhide KD0).c 3 (by simp)
  have q0 : V0.cell? ⟨w.heap.size, 0, none⟩ = some (.slice (some ⟨g1, 0, none⟩) ts.length p1) := (unhide KF0).c 0 (by simp)
  have q1 : V0.cell? ⟨w.heap.size, 1, none⟩ = some (.slice (some ⟨g2, 0, none⟩) cs.length p2) := (unhide KF0).c 1 (by simp)
  have q2 : V0.cell? ⟨w.heap.size, 2, none⟩ = some (.slice (some ⟨g3, 0, none⟩) ds.length p3) := (unhide KF0).c 2 (by simp)
  have q3 : V0.cell? ⟨w.heap.size, 3, none⟩ = some (.int .i64 nh) := (unhide KF0).c 3 (by simp)
  have q4 : V0.cell? ⟨w.heap.size, 4, none⟩ = some (.int .i64 nc) := (unhide KF0).c 4 (by simp)
  have q5 : V0.cell? ⟨w.heap.size, 5, none⟩ = some (.int .i64 nd) := (unhide KF0).c 5 (by simp)
  clear hV0 ff
  go_enter Tryz.func49, Tryz.ntmps49
  go_upto_region 1 with fail
  rw [← unhide HW]
  clear HW
  clear y0 y1 y2 y3 q0 q1 q2 q3 q4 q5
  have y0 : V0.cell? ⟨w.heap.size + 1, 0, none⟩ = some (.int .i64 4) := (unhide KD0).c 0 (by simp)
  go_wp2_with fail
  go_loopw [9] (fun u wr => ∃ k : Nat, u = .int .i64 k ∧ k ≤ ds.length ∧ Hid (Blk wr (w.heap.size) [.slice (some ⟨g1, 0, none⟩) ts.length p1, .slice (some ⟨g2, 0, none⟩) cs.length p2, .slice (some ⟨g3, 0, none⟩) ds.length p3, .int .i64 nh, .int .i64 nc, .int .i64 nd]) ∧ Hid (Blk wr (w.heap.size + 1) [.int .i64 4, .string n, .int .i64 i, .int .i64 m]) ∧ Hid (Blk wr (w.heap.size + 1 + 1) [.slice none 0 0, .slice none 0 0, .slice none 0 0, .int .i64 0, .int .i64 0, .int .i64 0]) ∧ Hid (Below w.heap.size w wr) ∧ Hid (∀ j, j < k → (elAt ds j).i < i)) (fun u _ => ds.length - (intOf u).toNat)
  case atStart => exact ⟨0, rfl, Nat.zero_le _, KF0, KD0, KR0, B0, hide (fun j hj => by omega)⟩
  case round =>
    obtain ⟨k, rfl, hk, KF4, KD4, KR4, B4, AL⟩ := hrel
    by_cases hlt : k < ds.length
    · have hi1 : (k : Int) < (ds.length : Int) := by omega
      have hi0 : (0 : Int) ≤ (k : Int) := by omega
      obtain ⟨X, hX⟩ : ∃ x, (elAt ds k).i = x := ⟨_, rfl⟩
      have HX := hide hX
      clear hX
      go_wp2_with fail
      obtain ⟨ιfW, fW, _, hb, hall⟩ := belClass wr
      have HB := hide hb
      have HA := hide hall
      have d2 : ∀ z, (fW z).cell? ⟨w.heap.size, 2, none⟩ = some (.slice (some ⟨g3, 0, none⟩) ds.length p3) := fun z => ((unhide KF4).below (hb z)).c 2 (by simp)
      have d5 : ∀ z, (fW z).cell? ⟨w.heap.size + 1, 2, none⟩ = some (.int .i64 i) := fun z => ((unhide KD4).below (hb z)).c 2 (by simp)
      have dx : ∀ z, (fW z).cell? ⟨g3, k * 3 + 1, none⟩ = some (.int .i64 X) := fun z => by have e := (((unhide HO).o3.below ((unhide B4).trans ((hb z).mono (unhide B4).size))).here rfl k hlt 1 (by omega)).1; rw [show dfC (elAt ds k) 1 = .int .i64 (elAt ds k).i from rfl, unhide HX] at e; exact e
      clear hb hall
      obtain ⟨x0, h0⟩ := (unhide HA) wr (Below.refl _ _)
      rw [h0]
      clear h0
      by_cases q : X < i
      · refine wp_region_bel (fun w' h => (unhide HA) w' ((unhide HB _).trans (h.mono (unhide HB _).size))) (by kernel_rfl) (by kernel_rfl) ?_
        (repeat (go_big_quiet_step (fail)))
        refine wpQuiet_nil ?_
        rintro _ ⟨y, rfl⟩
        have KF5 := hide ((unhide KF4).below (unhide HB y))
        have KD5 := hide ((unhide KD4).below (unhide HB y))
        have KR5 := hide ((unhide KR4).below (unhide HB y))
        have B5 := hide ((unhide B4).trans ((unhide HB y).mono (unhide B4).size))
        clear KF4 KD4 KR4 B4 d2 d5 dx HA HB
        generalize fW y = w5 at *
        have NA : Hid (∀ j, j < k + 1 → (elAt ds j).i < i) := hide (fun j hj => by
          by_cases e3 : j = k
          · rw [e3, unhide HX]; exact q
          · exact (unhide AL) j (by omega))
        clear AL
        go_wp2_with fail
        go_roundw
        case rel => exact ⟨k + 1, by go_num, by omega, KF5, KD5, KR5, B5, NA⟩
        case measure => simp [intOf]; omega
      by_cases q2 : X = i
      · refine wp_region_bel (fun w' h => (unhide HA) w' ((unhide HB _).trans (h.mono (unhide HB _).size))) (by kernel_rfl) (by kernel_rfl) ?_
        (repeat (go_big_quiet_step (fail)))
        refine wpQuiet_nil ?_
        rintro _ ⟨y, rfl⟩
        have KF5 := hide ((unhide KF4).below (unhide HB y))
        have KD5 := hide ((unhide KD4).below (unhide HB y))
        have KR5 := hide ((unhide KR4).below (unhide HB y))
        have B5 := hide ((unhide B4).trans ((unhide HB y).mono (unhide B4).size))
        clear KF4 KD4 KR4 B4 d2 d5 dx HA HB
        generalize fW y = w5 at *
        go_wp2_with fail
        obtain ⟨ιfV, fV, _, hb, hall⟩ := belClass w5
        have HB := hide hb
        have HA := hide hall
        have d2 : ∀ z, (fV z).cell? ⟨w.heap.size, 2, none⟩ = some (.slice (some ⟨g3, 0, none⟩) ds.length p3) := fun z => ((unhide KF5).below (hb z)).c 2 (by simp)
        have d5 : ∀ z, (fV z).cell? ⟨w.heap.size + 1, 2, none⟩ = some (.int .i64 i) := fun z => ((unhide KD5).below (hb z)).c 2 (by simp)
        have dx : ∀ z, (fV z).cell? ⟨g3, k * 3 + 1, none⟩ = some (.int .i64 X) := fun z => by have e := (((unhide HO).o3.below ((unhide B5).trans ((hb z).mono (unhide B5).size))).here rfl k hlt 1 (by omega)).1; rw [show dfC (elAt ds k) 1 = .int .i64 (elAt ds k).i from rfl, unhide HX] at e; exact e
        clear hb hall
        obtain ⟨x0, h0⟩ := (unhide HA) w5 (Below.refl _ _)
        rw [h0]
        clear h0
        have e2 : decide (X = i) = true := by simpa using q2
        refine wp_region_bel (fun w' h => (unhide HA) w' ((unhide HB _).trans (h.mono (unhide HB _).size))) (by kernel_rfl) (by kernel_rfl) ?_
        (repeat (go_big_quiet_step (fail)))
        refine wpQuiet_nil ?_
        rintro _ ⟨y, rfl⟩
        have KF6 := hide ((unhide KF5).below (unhide HB y))
        have KD6 := hide ((unhide KD5).below (unhide HB y))
        have KR6 := hide ((unhide KR5).below (unhide HB y))
        have B6 := hide ((unhide B5).trans ((unhide HB y).mono (unhide B5).size))
        clear KF5 KD5 KR5 B5 d2 d5 dx HA HB
        generalize fV y = w6 at *
        obtain ⟨eB, eF⟩ := (unhide E1) k hlt (unhide AL) ((unhide HX).trans q2)
        subst eB
        obtain ⟨j, hj⟩ : ∃ j, j = k + 1 := ⟨_, rfl⟩
        rw [← hj] at eF
        have EF := hide eF
        have HJ : Hid ((k : Int) + 1 = (j : Int)) := hide (by omega)
        clear eF AL E1 E2
        have y0 : w6.cell? ⟨w.heap.size + 1, 0, none⟩ = some (.int .i64 4) := (unhide KD6).c 0 (by simp)
        have y1 : w6.cell? ⟨w.heap.size + 1, 1, none⟩ = some (.string n) := (unhide KD6).c 1 (by simp)
        have y2 : w6.cell? ⟨w.heap.size + 1, 2, none⟩ = some (.int .i64 i) := (unhide KD6).c 2 (by simp)
        have y3 : w6.cell? ⟨w.heap.size + 1, 3, none⟩ = some (.int .i64 m) := (unhide KD6).c 3 (by simp)
        have hcp : ds.length ≤ p3 := by obtain ⟨a, c, e, h, _⟩ := (unhide HO).o3.slice; simp only [Value.slice.injEq] at e; omega
        have RT : Hid (∀ V, Below w.heap.size w V → RowE 3 dfC V (some ⟨g3, 0, none⟩) k (ds.take k)) := hide (fun V b => ((unhide HO).o3.below b).row.takeN (by omega))
        have HL5 : Hid ((ds.take k).length = k) := hide (by simp; omega)
        obtain ⟨M, hM⟩ : ∃ x, (ds.take k ++ ds.drop j).length = x := ⟨_, rfl⟩
        have HLM := hide hM
        clear hM
        go_upto_region 27 with fail
        clear y0 y1 y2 y3
        have HS1 : Hid (k ≤ p3 ∧ (0 : Int) ≤ (k : Int) ∧ (k : Int) ≤ (p3 : Int) ∧ (k : Int) ≤ (ds.length : Int)) := hide (by omega)
        have HS3 : Hid (j ≤ ds.length ∧ j ≤ p3 ∧ (0 : Int) ≤ (j : Int) ∧ (j : Int) ≤ (ds.length : Int)) := hide (by omega)
        have HS6 : Hid ((ds.length : Int) ≤ (p3 : Int)) := hide (by omega)
        by_cases hcj : p3 = j
        · subst hcj
          have HS5 : Hid (ds.length - p3 = 0) := hide (by omega)
          have RD : Hid (∀ V, Below w.heap.size w V → RowE 3 dfC V (some ⟨g3, 0, none⟩) 0 (ds.drop p3)) := hide (fun V b => by rw [List.drop_eq_nil_of_le (by omega)]; exact ⟨rfl, by omega, fun i hi => by omega⟩)
          clear hj
          refine wp_region_flagsA (by kernel_rfl) (by kernel_rfl) (MmRJ w g1 p1 g2 p2 g3 p3 ts cs ds nh nc nd k p3 M (some ⟨g3, 0, none⟩) 0 0) ?_ ?_ ?_
          · exact MmRJ.mk (v0 := undef) (v1 := undef) (v2 := undef) (v3 := undef) (v4 := undef) (v5 := undef) (v6 := undef) (v7 := undef) (v8 := undef) (v9 := undef) (v10 := undef) (v11 := undef) (v12 := undef) ⟨((unhide B6).trans (bel0d' 1)), (fun _ => (unhide KF6).below (bel0d 1)), ((unhide KR6).below (bel0d 1)), (fun h => by cases h), (fun h => by cases h), (fun h => by cases h), (fun h => by cases h), (fun h => by cases h), (fun h => by cases h), (fun h => by cases h), (fun h => by cases h), (fun h => by cases h), (fun h => by cases h), (fun h => by cases h), (fun h => by cases h), (fun h => by cases h), (fun h => by cases h), (fun h => by cases h), (fun h => by cases h), (fun h => by cases h), (fun h => by cases h), (fun h => by cases h), (fun h => by cases h)⟩ (by kernel_rfl)
          rotate_left 1
          · rintro l a V x o ho hl hd ⟨v0, v1, v2, v3, v4, v5, v6, v7, v8, v9, v10, v11, v12, rfl, K⟩
            have hi : x < 14 := (Array.getElem?_eq_some_iff.1 ho).1
            rcases (show x = 0 ∨ x = 1 ∨ x = 2 ∨ x = 3 ∨ x = 4 ∨ x = 5 ∨ x = 6 ∨ x = 7 ∨ x = 8 ∨ x = 9 ∨ x = 10 ∨ x = 11 ∨ x = 12 ∨ x = 13 from by omega) with rfl | rfl | rfl | rfl | rfl | rfl | rfl | rfl | rfl | rfl | rfl | rfl | rfl | rfl
            · simp at ho
              subst ho
              have n5 : l 5 = false := by cases c : l 5; rfl; have z := K.c5_0 c; rw [hl] at z; cases z
              have n11 : l 11 = false := by cases c : l 11; rfl; have z := K.c11_5 c; rw [n5] at z; cases z
              have s9 := K.kr.lt
              have HK : Hid (MmR w g1 p1 g2 p2 g3 p3 ts cs ds nh nc nd k p3 M (some ⟨g3, 0, none⟩) 0 0 true (l 1) (l 2) (l 3) (l 4) (l 5) (l 6) (l 7) (l 8) (l 9) (l 10) (l 11) (l 12) (l 13) (.slice (some ⟨V.heap.size, 0, none⟩) 0 0) v1 v2 v3 v4 v5 v6 v7 v8 v9 v10 v11 v12 (V.alloc (Obj.cells #[] 94))) := hide ⟨(K.bel.alloc K.bel.size _), (fun h => (K.kf h).alloc _), (K.kr.alloc _), (K.e1), (K.e2), (K.e3), (K.e4), (K.e6), (K.e7), (K.e8), (K.e9), (K.e10), (K.e12), (fun _ _ => ⟨_, rfl, (ownE_none (Nat.le_refl _)).mono (show w.heap.size + 3 ≤ V.heap.size from by omega)⟩), (fun h => by have h : l 5 = true := h; rw [n5] at h; cases h), (fun h => by have h : l 11 = true := h; rw [n11] at h; cases h), (K.c13_11), (K.c11_5), (K.c11_10), (K.c10_7), (K.c5_4), (fun _ => rfl), (K.c4_2)⟩
              clear K hd hl n5 n11 s9
              go_wp2_with fail
              exact ⟨rfl, MmRJ.mk (unhide HK) (by kernel_rfl)⟩
            · simp at ho
              subst ho
              have HK : Hid (MmR w g1 p1 g2 p2 g3 p3 ts cs ds nh nc nd k p3 M (some ⟨g3, 0, none⟩) 0 0 (l 0) true (l 2) (l 3) (l 4) (l 5) (l 6) (l 7) (l 8) (l 9) (l 10) (l 11) (l 12) (l 13) v0 (.pointer (some ⟨w.heap.size, 2, none⟩)) v2 v3 v4 v5 v6 v7 v8 v9 v10 v11 v12 V) := hide ⟨(K.bel), (K.kf), (K.kr), (fun _ => rfl), (K.e2), (K.e3), (K.e4), (K.e6), (K.e7), (K.e8), (K.e9), (K.e10), (K.e12), (K.a0), (K.a5), (K.a11), (K.c13_11), (K.c11_5), (K.c11_10), (K.c10_7), (K.c5_4), (K.c5_0), (K.c4_2)⟩
              clear K hd hl
              go_wp2_with fail
              exact ⟨rfl, MmRJ.mk (unhide HK) (by kernel_rfl)⟩
            · simp at ho
              subst ho
              have d1 : l 1 = true := hd ⟨1, .data⟩ (by simp) rfl
              have x1 := K.e1 d1
              subst x1
              have n13 : l 13 = false := by cases c : l 13; rfl; have z := K.c4_2 (K.c5_4 (K.c11_5 (K.c13_11 c))); rw [hl] at z; cases z
              have yy := (K.kf n13).c 2 (by simp)
              have yy2 : V.cell? ⟨w.heap.size, 2, none⟩ = some (.slice (some ⟨g3, 0, none⟩) ds.length p3) := yy
              clear yy n13
              have HK : Hid (MmR w g1 p1 g2 p2 g3 p3 ts cs ds nh nc nd k p3 M (some ⟨g3, 0, none⟩) 0 0 (l 0) (l 1) true (l 3) (l 4) (l 5) (l 6) (l 7) (l 8) (l 9) (l 10) (l 11) (l 12) (l 13) v0 (.pointer (some ⟨w.heap.size, 2, none⟩)) (.slice (some ⟨g3, 0, none⟩) ds.length p3) v3 v4 v5 v6 v7 v8 v9 v10 v11 v12 V) := hide ⟨(K.bel), (K.kf), (K.kr), (K.e1), (fun _ => rfl), (K.e3), (K.e4), (K.e6), (K.e7), (K.e8), (K.e9), (K.e10), (K.e12), (K.a0), (K.a5), (K.a11), (K.c13_11), (K.c11_5), (K.c11_10), (K.c10_7), (K.c5_4), (K.c5_0), (fun _ => rfl)⟩
              clear K hd hl
              go_wp2_with fail
              exact ⟨rfl, MmRJ.mk (unhide HK) (by kernel_rfl)⟩
            · simp at ho
              subst ho
              have HK : Hid (MmR w g1 p1 g2 p2 g3 p3 ts cs ds nh nc nd k p3 M (some ⟨g3, 0, none⟩) 0 0 (l 0) (l 1) (l 2) true (l 4) (l 5) (l 6) (l 7) (l 8) (l 9) (l 10) (l 11) (l 12) (l 13) v0 v1 v2 (.int .i64 (k : Int)) v4 v5 v6 v7 v8 v9 v10 v11 v12 V) := hide ⟨(K.bel), (K.kf), (K.kr), (K.e1), (K.e2), (fun _ => rfl), (K.e4), (K.e6), (K.e7), (K.e8), (K.e9), (K.e10), (K.e12), (K.a0), (K.a5), (K.a11), (K.c13_11), (K.c11_5), (K.c11_10), (K.c10_7), (K.c5_4), (K.c5_0), (K.c4_2)⟩
              clear K hd hl
              go_wp2_with fail
              exact ⟨rfl, MmRJ.mk (unhide HK) (by kernel_rfl)⟩
            · simp at ho
              subst ho
              have d2 : l 2 = true := hd ⟨2, .data⟩ (by simp) rfl
              have x2 := K.e2 d2
              subst x2
              have d3 : l 3 = true := hd ⟨3, .data⟩ (by simp) rfl
              have x3 := K.e3 d3
              subst x3
              obtain ⟨f1, f2, f2b, f2c⟩ := unhide HS1
              obtain ⟨f3, f3b, f4, f4b⟩ := unhide HS3
              have f5 := unhide HS5
              have f6 := unhide HS6
              have HK : Hid (MmR w g1 p1 g2 p2 g3 p3 ts cs ds nh nc nd k p3 M (some ⟨g3, 0, none⟩) 0 0 (l 0) (l 1) (l 2) (l 3) true (l 5) (l 6) (l 7) (l 8) (l 9) (l 10) (l 11) (l 12) (l 13) v0 v1 (.slice (some ⟨g3, 0, none⟩) ds.length p3) (.int .i64 (k : Int)) (.slice (some ⟨g3, 0, none⟩) k p3) v5 v6 v7 v8 v9 v10 v11 v12 V) := hide ⟨(K.bel), (K.kf), (K.kr), (K.e1), (K.e2), (K.e3), (fun _ => rfl), (K.e6), (K.e7), (K.e8), (K.e9), (K.e10), (K.e12), (K.a0), (K.a5), (K.a11), (K.c13_11), (K.c11_5), (K.c11_10), (K.c10_7), (fun _ => rfl), (K.c5_0), (fun _ => d2)⟩
              clear K hd hl
              go_wp2_with fail
              (try simp only [Nat.zero_add])
              exact ⟨rfl, MmRJ.mk (unhide HK) (by kernel_rfl)⟩
            · simp at ho
              subst ho
              have d0 : l 0 = true := hd ⟨0, .data⟩ (by simp) rfl
              have d4 : l 4 = true := hd ⟨4, .data⟩ (by simp) rfl
              have x4 := K.e4 d4
              subst x4
              obtain ⟨vb, xb, ob⟩ := K.a0 d0 hl
              subst xb
              have n11 : l 11 = false := by cases c : l 11; rfl; have z := K.c11_5 c; rw [hl] at z; cases z
              have RS := hide ((unhide RT) V K.bel)
              have OB := hide ob
              have lb := (ob.lies vb rfl)
              have s9 := K.kr.lt
              have SZ : Hid (w.heap.size + 3 ≤ V.heap.size) := hide (by omega)
              have HK0 := hide K
              clear K hd ob
              go_wp2_with (at_builtin; refine wpList_app_elsM (K := 3) (cells := dfC) (by kernel_rfl) _ _ 34 94 rfl Tryz.underlying34 infoDf rfl (by decide) (by decide) dfCell1' (unhide OB) (by kernel_rfl) (some ⟨g3, 0, none⟩) k p3 (ds.take k) (by kernel_rfl) (unhide RS) (by simp; omega) (unhide SZ) ?_; intro v9 w9 o9 gr9 nn9; rw [List.nil_append] at o9; obtain ⟨g, c, rfl, hbg, hlg⟩ := fc_shape o9 nn9 (by simp); rw [unhide HL5] at o9; rw [unhide HL5]; have HK : Hid (MmR w g1 p1 g2 p2 g3 p3 ts cs ds nh nc nd k p3 M (some ⟨g3, 0, none⟩) 0 0 (l 0) (l 1) (l 2) (l 3) (l 4) true (l 6) (l 7) (l 8) (l 9) (l 10) (l 11) (l 12) (l 13) (.slice (some ⟨vb, 0, none⟩) 0 0) v1 v2 v3 (.slice (some ⟨g3, 0, none⟩) k p3) (.slice (some ⟨g, 0, none⟩) k c) v6 v7 v8 v9 v10 v11 v12 w9) := hide ⟨((unhide HK0).bel.grown gr9 (unhide HK0).bel.size (fun q hq => by have e : vb = q := Option.some.inj hq; omega)), (fun h => ((unhide HK0).kf h).apart gr9 (fun e => by have e : w.heap.size = vb := Option.some.inj e; omega)), ((unhide HK0).kr.apart gr9 (fun e => by have e : w.heap.size + 1 + 1 = vb := Option.some.inj e; omega)), ((unhide HK0).e1), ((unhide HK0).e2), ((unhide HK0).e3), ((unhide HK0).e4), ((unhide HK0).e6), ((unhide HK0).e7), ((unhide HK0).e8), ((unhide HK0).e9), ((unhide HK0).e10), ((unhide HK0).e12), (fun _ h => by cases h), (fun _ _ => ⟨g, c, rfl, o9⟩), (fun h => by have h : l 11 = true := h; rw [n11] at h; cases h), ((unhide HK0).c13_11), (fun _ => rfl), ((unhide HK0).c11_10), ((unhide HK0).c10_7), (fun _ => d4), (fun _ => d0), ((unhide HK0).c4_2)⟩; clear o9 gr9 nn9 hbg hlg)
              exact ⟨rfl, MmRJ.mk (unhide HK) (by kernel_rfl)⟩
            · simp at ho
              subst ho
              have HK : Hid (MmR w g1 p1 g2 p2 g3 p3 ts cs ds nh nc nd k p3 M (some ⟨g3, 0, none⟩) 0 0 (l 0) (l 1) (l 2) (l 3) (l 4) (l 5) true (l 7) (l 8) (l 9) (l 10) (l 11) (l 12) (l 13) v0 v1 v2 v3 v4 v5 (.pointer (some ⟨w.heap.size, 2, none⟩)) v7 v8 v9 v10 v11 v12 V) := hide ⟨(K.bel), (K.kf), (K.kr), (K.e1), (K.e2), (K.e3), (K.e4), (fun _ => rfl), (K.e7), (K.e8), (K.e9), (K.e10), (K.e12), (K.a0), (K.a5), (K.a11), (K.c13_11), (K.c11_5), (K.c11_10), (K.c10_7), (K.c5_4), (K.c5_0), (K.c4_2)⟩
              clear K hd hl
              go_wp2_with fail
              exact ⟨rfl, MmRJ.mk (unhide HK) (by kernel_rfl)⟩
            · simp at ho
              subst ho
              have d6 : l 6 = true := hd ⟨6, .data⟩ (by simp) rfl
              have x6 := K.e6 d6
              subst x6
              have n13 : l 13 = false := by cases c : l 13; rfl; have z := K.c10_7 (K.c11_10 (K.c13_11 c)); rw [hl] at z; cases z
              have yy := (K.kf n13).c 2 (by simp)
              have yy2 : V.cell? ⟨w.heap.size, 2, none⟩ = some (.slice (some ⟨g3, 0, none⟩) ds.length p3) := yy
              clear yy n13
              have HK : Hid (MmR w g1 p1 g2 p2 g3 p3 ts cs ds nh nc nd k p3 M (some ⟨g3, 0, none⟩) 0 0 (l 0) (l 1) (l 2) (l 3) (l 4) (l 5) (l 6) true (l 8) (l 9) (l 10) (l 11) (l 12) (l 13) v0 v1 v2 v3 v4 v5 (.pointer (some ⟨w.heap.size, 2, none⟩)) (.slice (some ⟨g3, 0, none⟩) ds.length p3) v8 v9 v10 v11 v12 V) := hide ⟨(K.bel), (K.kf), (K.kr), (K.e1), (K.e2), (K.e3), (K.e4), (K.e6), (fun _ => rfl), (K.e8), (K.e9), (K.e10), (K.e12), (K.a0), (K.a5), (K.a11), (K.c13_11), (K.c11_5), (K.c11_10), (fun _ => rfl), (K.c5_4), (K.c5_0), (K.c4_2)⟩
              clear K hd hl
              go_wp2_with fail
              exact ⟨rfl, MmRJ.mk (unhide HK) (by kernel_rfl)⟩
            · simp at ho
              subst ho
              have HK : Hid (MmR w g1 p1 g2 p2 g3 p3 ts cs ds nh nc nd k p3 M (some ⟨g3, 0, none⟩) 0 0 (l 0) (l 1) (l 2) (l 3) (l 4) (l 5) (l 6) (l 7) true (l 9) (l 10) (l 11) (l 12) (l 13) v0 v1 v2 v3 v4 v5 v6 v7 (.int .i64 (k : Int)) v9 v10 v11 v12 V) := hide ⟨(K.bel), (K.kf), (K.kr), (K.e1), (K.e2), (K.e3), (K.e4), (K.e6), (K.e7), (fun _ => rfl), (K.e9), (K.e10), (K.e12), (K.a0), (K.a5), (K.a11), (K.c13_11), (K.c11_5), (K.c11_10), (K.c10_7), (K.c5_4), (K.c5_0), (K.c4_2)⟩
              clear K hd hl
              go_wp2_with fail
              exact ⟨rfl, MmRJ.mk (unhide HK) (by kernel_rfl)⟩
            · simp at ho
              subst ho
              have d8 : l 8 = true := hd ⟨8, .data⟩ (by simp) rfl
              have x8 := K.e8 d8
              subst x8
              have hkj : (k : Int) + 1 = (p3 : Int) := unhide HJ
              have HK : Hid (MmR w g1 p1 g2 p2 g3 p3 ts cs ds nh nc nd k p3 M (some ⟨g3, 0, none⟩) 0 0 (l 0) (l 1) (l 2) (l 3) (l 4) (l 5) (l 6) (l 7) (l 8) true (l 10) (l 11) (l 12) (l 13) v0 v1 v2 v3 v4 v5 v6 v7 (.int .i64 (k : Int)) (.int .i64 (p3 : Int)) v10 v11 v12 V) := hide ⟨(K.bel), (K.kf), (K.kr), (K.e1), (K.e2), (K.e3), (K.e4), (K.e6), (K.e7), (K.e8), (fun _ => rfl), (K.e10), (K.e12), (K.a0), (K.a5), (K.a11), (K.c13_11), (K.c11_5), (K.c11_10), (K.c10_7), (K.c5_4), (K.c5_0), (K.c4_2)⟩
              clear K hd hl
              go_wp2_with fail
              exact ⟨rfl, MmRJ.mk (unhide HK) (by kernel_rfl)⟩
            · simp at ho
              subst ho
              have d7 : l 7 = true := hd ⟨7, .data⟩ (by simp) rfl
              have x7 := K.e7 d7
              subst x7
              have d9 : l 9 = true := hd ⟨9, .data⟩ (by simp) rfl
              have x9 := K.e9 d9
              subst x9
              obtain ⟨f1, f2, f2b, f2c⟩ := unhide HS1
              obtain ⟨f3, f3b, f4, f4b⟩ := unhide HS3
              have f5 := unhide HS5
              have f6 := unhide HS6
              have HK : Hid (MmR w g1 p1 g2 p2 g3 p3 ts cs ds nh nc nd k p3 M (some ⟨g3, 0, none⟩) 0 0 (l 0) (l 1) (l 2) (l 3) (l 4) (l 5) (l 6) (l 7) (l 8) (l 9) true (l 11) (l 12) (l 13) v0 v1 v2 v3 v4 v5 v6 (.slice (some ⟨g3, 0, none⟩) ds.length p3) v8 (.int .i64 (p3 : Int)) (.slice (some ⟨g3, 0, none⟩) 0 0) v11 v12 V) := hide ⟨(K.bel), (K.kf), (K.kr), (K.e1), (K.e2), (K.e3), (K.e4), (K.e6), (K.e7), (K.e8), (K.e9), (fun _ => rfl), (K.e12), (K.a0), (K.a5), (K.a11), (K.c13_11), (K.c11_5), (fun _ => rfl), (fun _ => d7), (K.c5_4), (K.c5_0), (K.c4_2)⟩
              clear K hd hl
              go_wp2_with fail
              (try simp only [Nat.zero_add])
              exact ⟨rfl, MmRJ.mk (unhide HK) (by kernel_rfl)⟩
            · simp at ho
              subst ho
              have d5 : l 5 = true := hd ⟨5, .data⟩ (by simp) rfl
              have d10 : l 10 = true := hd ⟨10, .data⟩ (by simp) rfl
              have x10 := K.e10 d10
              subst x10
              obtain ⟨vg, vc, xb, ob⟩ := K.a5 d5 hl
              subst xb
              have n13 : l 13 = false := by cases c : l 13; rfl; have z := K.c13_11 c; rw [hl] at z; cases z
              have RS := hide ((unhide RD) V K.bel)
              have OB := hide ob
              have lb := (ob.lies vg rfl)
              have s9 := K.kr.lt
              have SZ : Hid (w.heap.size + 3 ≤ V.heap.size) := hide (by omega)
              have HK0 := hide K
              clear K hd ob
              go_wp2_with (at_builtin; refine wpList_app_elsM (K := 3) (cells := dfC) (by kernel_rfl) _ _ 34 94 rfl Tryz.underlying34 infoDf rfl (by decide) (by decide) dfCell1' (unhide OB) (by kernel_rfl) (some ⟨g3, 0, none⟩) 0 0 (ds.drop p3) (by kernel_rfl) (unhide RS) (by simp; omega) (unhide SZ) ?_; intro v9 w9 o9 gr9 nn9; obtain ⟨g, c, rfl, hbg, hlg⟩ := fc_shape o9 nn9 (by simp); rw [unhide HLM] at o9; rw [unhide HLM]; have HK : Hid (MmR w g1 p1 g2 p2 g3 p3 ts cs ds nh nc nd k p3 M (some ⟨g3, 0, none⟩) 0 0 (l 0) (l 1) (l 2) (l 3) (l 4) (l 5) (l 6) (l 7) (l 8) (l 9) (l 10) true (l 12) (l 13) v0 v1 v2 v3 v4 (.slice (some ⟨vg, 0, none⟩) k vc) v6 v7 v8 v9 (.slice (some ⟨g3, 0, none⟩) 0 0) (.slice (some ⟨g, 0, none⟩) M c) v12 w9) := hide ⟨((unhide HK0).bel.grown gr9 (unhide HK0).bel.size (fun q hq => by have e : vg = q := Option.some.inj hq; omega)), (fun h => ((unhide HK0).kf h).apart gr9 (fun e => by have e : w.heap.size = vg := Option.some.inj e; omega)), ((unhide HK0).kr.apart gr9 (fun e => by have e : w.heap.size + 1 + 1 = vg := Option.some.inj e; omega)), ((unhide HK0).e1), ((unhide HK0).e2), ((unhide HK0).e3), ((unhide HK0).e4), ((unhide HK0).e6), ((unhide HK0).e7), ((unhide HK0).e8), ((unhide HK0).e9), ((unhide HK0).e10), ((unhide HK0).e12), (fun _ h => by have h : l 5 = false := h; rw [d5] at h; cases h), (fun _ h => by cases h), (fun _ => ⟨g, c, rfl, o9, fun h => by have h : l 13 = true := h; rw [n13] at h; cases h⟩), (fun _ => rfl), (fun _ => d5), (fun _ => d10), ((unhide HK0).c10_7), ((unhide HK0).c5_4), ((unhide HK0).c5_0), ((unhide HK0).c4_2)⟩; clear o9 gr9 nn9 hbg hlg)
              exact ⟨rfl, MmRJ.mk (unhide HK) (by kernel_rfl)⟩
            · simp at ho
              subst ho
              have HK : Hid (MmR w g1 p1 g2 p2 g3 p3 ts cs ds nh nc nd k p3 M (some ⟨g3, 0, none⟩) 0 0 (l 0) (l 1) (l 2) (l 3) (l 4) (l 5) (l 6) (l 7) (l 8) (l 9) (l 10) (l 11) true (l 13) v0 v1 v2 v3 v4 v5 v6 v7 v8 v9 v10 v11 (.pointer (some ⟨w.heap.size, 2, none⟩)) V) := hide ⟨(K.bel), (K.kf), (K.kr), (K.e1), (K.e2), (K.e3), (K.e4), (K.e6), (K.e7), (K.e8), (K.e9), (K.e10), (fun _ => rfl), (K.a0), (K.a5), (K.a11), (K.c13_11), (K.c11_5), (K.c11_10), (K.c10_7), (K.c5_4), (K.c5_0), (K.c4_2)⟩
              clear K hd hl
              go_wp2_with fail
              exact ⟨rfl, MmRJ.mk (unhide HK) (by kernel_rfl)⟩
            · simp at ho
              subst ho
              have d12 : l 12 = true := hd ⟨12, .data⟩ (by simp) rfl
              have x12 := K.e12 d12
              subst x12
              have d11 : l 11 = true := hd ⟨11, .data⟩ (by simp) rfl
              obtain ⟨g, c, xg, og, _⟩ := K.a11 d11
              subst xg
              have kv := K.kf hl
              have lg := (og.lies g rfl).1
              have s5 := K.c11_5 d11
              have yy : V.cell? ⟨w.heap.size, 2, none⟩ = some (.slice (some ⟨g3, 0, none⟩) ds.length p3) := kv.c 2 (by simp)
              have ff : V.frozen? ⟨w.heap.size, 2, none⟩ = false := kv.f 2 (by simp)
              have HK : Hid (MmR w g1 p1 g2 p2 g3 p3 ts cs ds nh nc nd k p3 M (some ⟨g3, 0, none⟩) 0 0 (l 0) (l 1) (l 2) (l 3) (l 4) (l 5) (l 6) (l 7) (l 8) (l 9) (l 10) (l 11) (l 12) true v0 v1 v2 v3 v4 v5 v6 v7 v8 v9 v10 (.slice (some ⟨g, 0, none⟩) M c) (.pointer (some ⟨w.heap.size, 2, none⟩)) (V.setCell ⟨w.heap.size, 2, none⟩ (.slice (some ⟨g, 0, none⟩) M c))) := hide ⟨(K.bel.setCell (p := ⟨w.heap.size, 2, none⟩) (Nat.le_refl _) _), (fun h => by cases h), (K.kr.other (p := ⟨w.heap.size, 2, none⟩) (by show w.heap.size ≠ w.heap.size + 1 + 1; omega) _), (K.e1), (K.e2), (K.e3), (K.e4), (K.e6), (K.e7), (K.e8), (K.e9), (K.e10), (K.e12), (fun _ h => by have h : l 5 = false := h; rw [s5] at h; cases h), (fun _ h => by have h : l 11 = false := h; rw [d11] at h; cases h), (fun _ => ⟨g, c, rfl, og.set_other _ (by intro e; have e : g = w.heap.size := Option.some.inj e; omega), fun _ => kv.set 2 (by simp) _⟩), (fun _ => d11), (K.c11_5), (K.c11_10), (K.c10_7), (K.c5_4), (K.c5_0), (K.c4_2)⟩
              clear K hd hl kv og s5 lg
              go_wp2_with fail
              exact ⟨rfl, MmRJ.mk (unhide HK) (by kernel_rfl)⟩
          rintro l a V7 hall ⟨v0, v1, v2, v3, v4, v5, v6, v7, v8, v9, v10, v11, v12, rfl, K⟩
          obtain ⟨g, c, xg, og, kv⟩ := K.a11 (hall 11 (by decide))
          have KF7 := hide (kv (hall 13 (by decide)))
          have OG := hide og
          have KR7 := hide K.kr
          have B7 := hide K.bel
          clear K hall og kv xg
          have q0 : V7.cell? ⟨w.heap.size, 0, none⟩ = some (.slice (some ⟨g1, 0, none⟩) ts.length p1) := (unhide KF7).c 0 (by simp)
          have q1 : V7.cell? ⟨w.heap.size, 1, none⟩ = some (.slice (some ⟨g2, 0, none⟩) cs.length p2) := (unhide KF7).c 1 (by simp)
          have q2 : V7.cell? ⟨w.heap.size, 2, none⟩ = some (.slice (some ⟨g, 0, none⟩) M c) := (unhide KF7).c 2 (by simp)
          have q3 : V7.cell? ⟨w.heap.size, 3, none⟩ = some (.int .i64 nh) := (unhide KF7).c 3 (by simp)
          have q4 : V7.cell? ⟨w.heap.size, 4, none⟩ = some (.int .i64 nc) := (unhide KF7).c 4 (by simp)
          have q5 : V7.cell? ⟨w.heap.size, 5, none⟩ = some (.int .i64 nd) := (unhide KF7).c 5 (by simp)
          go_wp2_with (((with_reducible show wpList _ _ _ (⟨none, .store 37 _ _, _, _, _, none⟩ :: _) _ _); refine at_storeAgg (us := [.slice none 0 0, .slice none 0 0, .slice none 0 0, .int .i64 0, .int .i64 0, .int .i64 0]) (vs := [.slice (some ⟨g1, 0, none⟩) ts.length p1, .slice (some ⟨g2, 0, none⟩) cs.length p2, .slice (some ⟨g, 0, none⟩) M c, .int .i64 nh, .int .i64 nc, .int .i64 nd]) Tryz.sizeOf37 rfl rfl (unhide KR7) rfl (fun v hv => by simp at hv; rcases hv with rfl | rfl | rfl | rfl | rfl | rfl <;> rfl) ?_; intro w9 k9 g9; have K9 := hide k9; have G9 := hide g9; clear k9 g9))
          have lg := ((unhide OG).lies g rfl).1
          have B9 := (unhide B7).grown (unhide G9) (unhide B7).size (fun q hq => by have e : w.heap.size + 1 + 1 = q := Option.some.inj hq; omega)
          have O9 := (unhide OG).far (unhide G9) (fun q hq e => by have e1 : g = q := Option.some.inj hq; have e2 : q = w.heap.size + 1 + 1 := Option.some.inj e; omega)
          have o1 := (unhide HO).o1.below B9
          have o2 := (unhide HO).o2.below B9
          refine bodyPost_ret (results_cellB (vs := [.slice (some ⟨g1, 0, none⟩) ts.length p1, .slice (some ⟨g2, 0, none⟩) cs.length p2, .slice (some ⟨g, 0, none⟩) M c, .int .i64 nh, .int .i64 nc, .int .i64 nd]) rfl Tryz.isAgg37 Tryz.sizeOf37 rfl (unhide K9) rfl) rfl ⟨_, rfl, ⟨_, _, _, _, _, _, _, _, _, _, _, _, rfl, fun _ => by rw [unhide EF]; exact ⟨⟨o1, o2, O9.mono (by omega), (unhide HO).p12, own_ne o1 O9 (by decide), own_ne o2 O9 (by decide)⟩, rfl, rfl, rfl⟩⟩, mdG_of B9 hsz⟩
        · have HS5 : Hid (¬ (p3 = j)) := hide (by omega)
          have RD : Hid (∀ V, Below w.heap.size w V → RowE 3 dfC V (some ⟨g3, j * 3, none⟩) (ds.length - j) (ds.drop j)) := hide (fun V b => ((unhide HO).o3.below b).row.dropN (by omega))
          clear hcj hj
          refine wp_region_flagsA (by kernel_rfl) (by kernel_rfl) (MmRJ w g1 p1 g2 p2 g3 p3 ts cs ds nh nc nd k j M (some ⟨g3, j * 3, none⟩) (ds.length - j) (p3 - j)) ?_ ?_ ?_
          · exact MmRJ.mk (v0 := undef) (v1 := undef) (v2 := undef) (v3 := undef) (v4 := undef) (v5 := undef) (v6 := undef) (v7 := undef) (v8 := undef) (v9 := undef) (v10 := undef) (v11 := undef) (v12 := undef) ⟨((unhide B6).trans (bel0d' 1)), (fun _ => (unhide KF6).below (bel0d 1)), ((unhide KR6).below (bel0d 1)), (fun h => by cases h), (fun h => by cases h), (fun h => by cases h), (fun h => by cases h), (fun h => by cases h), (fun h => by cases h), (fun h => by cases h), (fun h => by cases h), (fun h => by cases h), (fun h => by cases h), (fun h => by cases h), (fun h => by cases h), (fun h => by cases h), (fun h => by cases h), (fun h => by cases h), (fun h => by cases h), (fun h => by cases h), (fun h => by cases h), (fun h => by cases h), (fun h => by cases h)⟩ (by kernel_rfl)
          rotate_left 1
          · rintro l a V x o ho hl hd ⟨v0, v1, v2, v3, v4, v5, v6, v7, v8, v9, v10, v11, v12, rfl, K⟩
            have hi : x < 14 := (Array.getElem?_eq_some_iff.1 ho).1
            rcases (show x = 0 ∨ x = 1 ∨ x = 2 ∨ x = 3 ∨ x = 4 ∨ x = 5 ∨ x = 6 ∨ x = 7 ∨ x = 8 ∨ x = 9 ∨ x = 10 ∨ x = 11 ∨ x = 12 ∨ x = 13 from by omega) with rfl | rfl | rfl | rfl | rfl | rfl | rfl | rfl | rfl | rfl | rfl | rfl | rfl | rfl
            · simp at ho
              subst ho
              have n5 : l 5 = false := by cases c : l 5; rfl; have z := K.c5_0 c; rw [hl] at z; cases z
              have n11 : l 11 = false := by cases c : l 11; rfl; have z := K.c11_5 c; rw [n5] at z; cases z
              have s9 := K.kr.lt
              have HK : Hid (MmR w g1 p1 g2 p2 g3 p3 ts cs ds nh nc nd k j M (some ⟨g3, j * 3, none⟩) (ds.length - j) (p3 - j) true (l 1) (l 2) (l 3) (l 4) (l 5) (l 6) (l 7) (l 8) (l 9) (l 10) (l 11) (l 12) (l 13) (.slice (some ⟨V.heap.size, 0, none⟩) 0 0) v1 v2 v3 v4 v5 v6 v7 v8 v9 v10 v11 v12 (V.alloc (Obj.cells #[] 94))) := hide ⟨(K.bel.alloc K.bel.size _), (fun h => (K.kf h).alloc _), (K.kr.alloc _), (K.e1), (K.e2), (K.e3), (K.e4), (K.e6), (K.e7), (K.e8), (K.e9), (K.e10), (K.e12), (fun _ _ => ⟨_, rfl, (ownE_none (Nat.le_refl _)).mono (show w.heap.size + 3 ≤ V.heap.size from by omega)⟩), (fun h => by have h : l 5 = true := h; rw [n5] at h; cases h), (fun h => by have h : l 11 = true := h; rw [n11] at h; cases h), (K.c13_11), (K.c11_5), (K.c11_10), (K.c10_7), (K.c5_4), (fun _ => rfl), (K.c4_2)⟩
              clear K hd hl n5 n11 s9
              go_wp2_with fail
              exact ⟨rfl, MmRJ.mk (unhide HK) (by kernel_rfl)⟩
            · simp at ho
              subst ho
              have HK : Hid (MmR w g1 p1 g2 p2 g3 p3 ts cs ds nh nc nd k j M (some ⟨g3, j * 3, none⟩) (ds.length - j) (p3 - j) (l 0) true (l 2) (l 3) (l 4) (l 5) (l 6) (l 7) (l 8) (l 9) (l 10) (l 11) (l 12) (l 13) v0 (.pointer (some ⟨w.heap.size, 2, none⟩)) v2 v3 v4 v5 v6 v7 v8 v9 v10 v11 v12 V) := hide ⟨(K.bel), (K.kf), (K.kr), (fun _ => rfl), (K.e2), (K.e3), (K.e4), (K.e6), (K.e7), (K.e8), (K.e9), (K.e10), (K.e12), (K.a0), (K.a5), (K.a11), (K.c13_11), (K.c11_5), (K.c11_10), (K.c10_7), (K.c5_4), (K.c5_0), (K.c4_2)⟩
              clear K hd hl
              go_wp2_with fail
              exact ⟨rfl, MmRJ.mk (unhide HK) (by kernel_rfl)⟩
            · simp at ho
              subst ho
              have d1 : l 1 = true := hd ⟨1, .data⟩ (by simp) rfl
              have x1 := K.e1 d1
              subst x1
              have n13 : l 13 = false := by cases c : l 13; rfl; have z := K.c4_2 (K.c5_4 (K.c11_5 (K.c13_11 c))); rw [hl] at z; cases z
              have yy := (K.kf n13).c 2 (by simp)
              have yy2 : V.cell? ⟨w.heap.size, 2, none⟩ = some (.slice (some ⟨g3, 0, none⟩) ds.length p3) := yy
              clear yy n13
              have HK : Hid (MmR w g1 p1 g2 p2 g3 p3 ts cs ds nh nc nd k j M (some ⟨g3, j * 3, none⟩) (ds.length - j) (p3 - j) (l 0) (l 1) true (l 3) (l 4) (l 5) (l 6) (l 7) (l 8) (l 9) (l 10) (l 11) (l 12) (l 13) v0 (.pointer (some ⟨w.heap.size, 2, none⟩)) (.slice (some ⟨g3, 0, none⟩) ds.length p3) v3 v4 v5 v6 v7 v8 v9 v10 v11 v12 V) := hide ⟨(K.bel), (K.kf), (K.kr), (K.e1), (fun _ => rfl), (K.e3), (K.e4), (K.e6), (K.e7), (K.e8), (K.e9), (K.e10), (K.e12), (K.a0), (K.a5), (K.a11), (K.c13_11), (K.c11_5), (K.c11_10), (K.c10_7), (K.c5_4), (K.c5_0), (fun _ => rfl)⟩
              clear K hd hl
              go_wp2_with fail
              exact ⟨rfl, MmRJ.mk (unhide HK) (by kernel_rfl)⟩
            · simp at ho
              subst ho
              have HK : Hid (MmR w g1 p1 g2 p2 g3 p3 ts cs ds nh nc nd k j M (some ⟨g3, j * 3, none⟩) (ds.length - j) (p3 - j) (l 0) (l 1) (l 2) true (l 4) (l 5) (l 6) (l 7) (l 8) (l 9) (l 10) (l 11) (l 12) (l 13) v0 v1 v2 (.int .i64 (k : Int)) v4 v5 v6 v7 v8 v9 v10 v11 v12 V) := hide ⟨(K.bel), (K.kf), (K.kr), (K.e1), (K.e2), (fun _ => rfl), (K.e4), (K.e6), (K.e7), (K.e8), (K.e9), (K.e10), (K.e12), (K.a0), (K.a5), (K.a11), (K.c13_11), (K.c11_5), (K.c11_10), (K.c10_7), (K.c5_4), (K.c5_0), (K.c4_2)⟩
              clear K hd hl
              go_wp2_with fail
              exact ⟨rfl, MmRJ.mk (unhide HK) (by kernel_rfl)⟩
            · simp at ho
              subst ho
              have d2 : l 2 = true := hd ⟨2, .data⟩ (by simp) rfl
              have x2 := K.e2 d2
              subst x2
              have d3 : l 3 = true := hd ⟨3, .data⟩ (by simp) rfl
              have x3 := K.e3 d3
              subst x3
              obtain ⟨f1, f2, f2b, f2c⟩ := unhide HS1
              obtain ⟨f3, f3b, f4, f4b⟩ := unhide HS3
              have f5 := unhide HS5
              have f6 := unhide HS6
              have HK : Hid (MmR w g1 p1 g2 p2 g3 p3 ts cs ds nh nc nd k j M (some ⟨g3, j * 3, none⟩) (ds.length - j) (p3 - j) (l 0) (l 1) (l 2) (l 3) true (l 5) (l 6) (l 7) (l 8) (l 9) (l 10) (l 11) (l 12) (l 13) v0 v1 (.slice (some ⟨g3, 0, none⟩) ds.length p3) (.int .i64 (k : Int)) (.slice (some ⟨g3, 0, none⟩) k p3) v5 v6 v7 v8 v9 v10 v11 v12 V) := hide ⟨(K.bel), (K.kf), (K.kr), (K.e1), (K.e2), (K.e3), (fun _ => rfl), (K.e6), (K.e7), (K.e8), (K.e9), (K.e10), (K.e12), (K.a0), (K.a5), (K.a11), (K.c13_11), (K.c11_5), (K.c11_10), (K.c10_7), (fun _ => rfl), (K.c5_0), (fun _ => d2)⟩
              clear K hd hl
              go_wp2_with fail
              (try simp only [Nat.zero_add])
              exact ⟨rfl, MmRJ.mk (unhide HK) (by kernel_rfl)⟩
            · simp at ho
              subst ho
              have d0 : l 0 = true := hd ⟨0, .data⟩ (by simp) rfl
              have d4 : l 4 = true := hd ⟨4, .data⟩ (by simp) rfl
              have x4 := K.e4 d4
              subst x4
              obtain ⟨vb, xb, ob⟩ := K.a0 d0 hl
              subst xb
              have n11 : l 11 = false := by cases c : l 11; rfl; have z := K.c11_5 c; rw [hl] at z; cases z
              have RS := hide ((unhide RT) V K.bel)
              have OB := hide ob
              have lb := (ob.lies vb rfl)
              have s9 := K.kr.lt
              have SZ : Hid (w.heap.size + 3 ≤ V.heap.size) := hide (by omega)
              have HK0 := hide K
              clear K hd ob
              go_wp2_with (at_builtin; refine wpList_app_elsM (K := 3) (cells := dfC) (by kernel_rfl) _ _ 34 94 rfl Tryz.underlying34 infoDf rfl (by decide) (by decide) dfCell1' (unhide OB) (by kernel_rfl) (some ⟨g3, 0, none⟩) k p3 (ds.take k) (by kernel_rfl) (unhide RS) (by simp; omega) (unhide SZ) ?_; intro v9 w9 o9 gr9 nn9; rw [List.nil_append] at o9; obtain ⟨g, c, rfl, hbg, hlg⟩ := fc_shape o9 nn9 (by simp); rw [unhide HL5] at o9; rw [unhide HL5]; have HK : Hid (MmR w g1 p1 g2 p2 g3 p3 ts cs ds nh nc nd k j M (some ⟨g3, j * 3, none⟩) (ds.length - j) (p3 - j) (l 0) (l 1) (l 2) (l 3) (l 4) true (l 6) (l 7) (l 8) (l 9) (l 10) (l 11) (l 12) (l 13) (.slice (some ⟨vb, 0, none⟩) 0 0) v1 v2 v3 (.slice (some ⟨g3, 0, none⟩) k p3) (.slice (some ⟨g, 0, none⟩) k c) v6 v7 v8 v9 v10 v11 v12 w9) := hide ⟨((unhide HK0).bel.grown gr9 (unhide HK0).bel.size (fun q hq => by have e : vb = q := Option.some.inj hq; omega)), (fun h => ((unhide HK0).kf h).apart gr9 (fun e => by have e : w.heap.size = vb := Option.some.inj e; omega)), ((unhide HK0).kr.apart gr9 (fun e => by have e : w.heap.size + 1 + 1 = vb := Option.some.inj e; omega)), ((unhide HK0).e1), ((unhide HK0).e2), ((unhide HK0).e3), ((unhide HK0).e4), ((unhide HK0).e6), ((unhide HK0).e7), ((unhide HK0).e8), ((unhide HK0).e9), ((unhide HK0).e10), ((unhide HK0).e12), (fun _ h => by cases h), (fun _ _ => ⟨g, c, rfl, o9⟩), (fun h => by have h : l 11 = true := h; rw [n11] at h; cases h), ((unhide HK0).c13_11), (fun _ => rfl), ((unhide HK0).c11_10), ((unhide HK0).c10_7), (fun _ => d4), (fun _ => d0), ((unhide HK0).c4_2)⟩; clear o9 gr9 nn9 hbg hlg)
              exact ⟨rfl, MmRJ.mk (unhide HK) (by kernel_rfl)⟩
            · simp at ho
              subst ho
              have HK : Hid (MmR w g1 p1 g2 p2 g3 p3 ts cs ds nh nc nd k j M (some ⟨g3, j * 3, none⟩) (ds.length - j) (p3 - j) (l 0) (l 1) (l 2) (l 3) (l 4) (l 5) true (l 7) (l 8) (l 9) (l 10) (l 11) (l 12) (l 13) v0 v1 v2 v3 v4 v5 (.pointer (some ⟨w.heap.size, 2, none⟩)) v7 v8 v9 v10 v11 v12 V) := hide ⟨(K.bel), (K.kf), (K.kr), (K.e1), (K.e2), (K.e3), (K.e4), (fun _ => rfl), (K.e7), (K.e8), (K.e9), (K.e10), (K.e12), (K.a0), (K.a5), (K.a11), (K.c13_11), (K.c11_5), (K.c11_10), (K.c10_7), (K.c5_4), (K.c5_0), (K.c4_2)⟩
              clear K hd hl
              go_wp2_with fail
              exact ⟨rfl, MmRJ.mk (unhide HK) (by kernel_rfl)⟩
            · simp at ho
              subst ho
              have d6 : l 6 = true := hd ⟨6, .data⟩ (by simp) rfl
              have x6 := K.e6 d6
              subst x6
              have n13 : l 13 = false := by cases c : l 13; rfl; have z := K.c10_7 (K.c11_10 (K.c13_11 c)); rw [hl] at z; cases z
              have yy := (K.kf n13).c 2 (by simp)
              have yy2 : V.cell? ⟨w.heap.size, 2, none⟩ = some (.slice (some ⟨g3, 0, none⟩) ds.length p3) := yy
              clear yy n13
              have HK : Hid (MmR w g1 p1 g2 p2 g3 p3 ts cs ds nh nc nd k j M (some ⟨g3, j * 3, none⟩) (ds.length - j) (p3 - j) (l 0) (l 1) (l 2) (l 3) (l 4) (l 5) (l 6) true (l 8) (l 9) (l 10) (l 11) (l 12) (l 13) v0 v1 v2 v3 v4 v5 (.pointer (some ⟨w.heap.size, 2, none⟩)) (.slice (some ⟨g3, 0, none⟩) ds.length p3) v8 v9 v10 v11 v12 V) := hide ⟨(K.bel), (K.kf), (K.kr), (K.e1), (K.e2), (K.e3), (K.e4), (K.e6), (fun _ => rfl), (K.e8), (K.e9), (K.e10), (K.e12), (K.a0), (K.a5), (K.a11), (K.c13_11), (K.c11_5), (K.c11_10), (fun _ => rfl), (K.c5_4), (K.c5_0), (K.c4_2)⟩
              clear K hd hl
              go_wp2_with fail
              exact ⟨rfl, MmRJ.mk (unhide HK) (by kernel_rfl)⟩
            · simp at ho
              subst ho
              have HK : Hid (MmR w g1 p1 g2 p2 g3 p3 ts cs ds nh nc nd k j M (some ⟨g3, j * 3, none⟩) (ds.length - j) (p3 - j) (l 0) (l 1) (l 2) (l 3) (l 4) (l 5) (l 6) (l 7) true (l 9) (l 10) (l 11) (l 12) (l 13) v0 v1 v2 v3 v4 v5 v6 v7 (.int .i64 (k : Int)) v9 v10 v11 v12 V) := hide ⟨(K.bel), (K.kf), (K.kr), (K.e1), (K.e2), (K.e3), (K.e4), (K.e6), (K.e7), (fun _ => rfl), (K.e9), (K.e10), (K.e12), (K.a0), (K.a5), (K.a11), (K.c13_11), (K.c11_5), (K.c11_10), (K.c10_7), (K.c5_4), (K.c5_0), (K.c4_2)⟩
              clear K hd hl
              go_wp2_with fail
              exact ⟨rfl, MmRJ.mk (unhide HK) (by kernel_rfl)⟩
            · simp at ho
              subst ho
              have d8 : l 8 = true := hd ⟨8, .data⟩ (by simp) rfl
              have x8 := K.e8 d8
              subst x8
              have hkj : (k : Int) + 1 = (j : Int) := unhide HJ
              have HK : Hid (MmR w g1 p1 g2 p2 g3 p3 ts cs ds nh nc nd k j M (some ⟨g3, j * 3, none⟩) (ds.length - j) (p3 - j) (l 0) (l 1) (l 2) (l 3) (l 4) (l 5) (l 6) (l 7) (l 8) true (l 10) (l 11) (l 12) (l 13) v0 v1 v2 v3 v4 v5 v6 v7 (.int .i64 (k : Int)) (.int .i64 (j : Int)) v10 v11 v12 V) := hide ⟨(K.bel), (K.kf), (K.kr), (K.e1), (K.e2), (K.e3), (K.e4), (K.e6), (K.e7), (K.e8), (fun _ => rfl), (K.e10), (K.e12), (K.a0), (K.a5), (K.a11), (K.c13_11), (K.c11_5), (K.c11_10), (K.c10_7), (K.c5_4), (K.c5_0), (K.c4_2)⟩
              clear K hd hl
              go_wp2_with fail
              exact ⟨rfl, MmRJ.mk (unhide HK) (by kernel_rfl)⟩
            · simp at ho
              subst ho
              have d7 : l 7 = true := hd ⟨7, .data⟩ (by simp) rfl
              have x7 := K.e7 d7
              subst x7
              have d9 : l 9 = true := hd ⟨9, .data⟩ (by simp) rfl
              have x9 := K.e9 d9
              subst x9
              obtain ⟨f1, f2, f2b, f2c⟩ := unhide HS1
              obtain ⟨f3, f3b, f4, f4b⟩ := unhide HS3
              have f5 := unhide HS5
              have f6 := unhide HS6
              have HK : Hid (MmR w g1 p1 g2 p2 g3 p3 ts cs ds nh nc nd k j M (some ⟨g3, j * 3, none⟩) (ds.length - j) (p3 - j) (l 0) (l 1) (l 2) (l 3) (l 4) (l 5) (l 6) (l 7) (l 8) (l 9) true (l 11) (l 12) (l 13) v0 v1 v2 v3 v4 v5 v6 (.slice (some ⟨g3, 0, none⟩) ds.length p3) v8 (.int .i64 (j : Int)) (.slice (some ⟨g3, j * 3, none⟩) (ds.length - j) (p3 - j)) v11 v12 V) := hide ⟨(K.bel), (K.kf), (K.kr), (K.e1), (K.e2), (K.e3), (K.e4), (K.e6), (K.e7), (K.e8), (K.e9), (fun _ => rfl), (K.e12), (K.a0), (K.a5), (K.a11), (K.c13_11), (K.c11_5), (fun _ => rfl), (fun _ => d7), (K.c5_4), (K.c5_0), (K.c4_2)⟩
              clear K hd hl
              go_wp2_with fail
              (try simp only [Nat.zero_add])
              exact ⟨rfl, MmRJ.mk (unhide HK) (by kernel_rfl)⟩
            · simp at ho
              subst ho
              have d5 : l 5 = true := hd ⟨5, .data⟩ (by simp) rfl
              have d10 : l 10 = true := hd ⟨10, .data⟩ (by simp) rfl
              have x10 := K.e10 d10
              subst x10
              obtain ⟨vg, vc, xb, ob⟩ := K.a5 d5 hl
              subst xb
              have n13 : l 13 = false := by cases c : l 13; rfl; have z := K.c13_11 c; rw [hl] at z; cases z
              have RS := hide ((unhide RD) V K.bel)
              have OB := hide ob
              have lb := (ob.lies vg rfl)
              have s9 := K.kr.lt
              have SZ : Hid (w.heap.size + 3 ≤ V.heap.size) := hide (by omega)
              have HK0 := hide K
              clear K hd ob
              go_wp2_with (at_builtin; refine wpList_app_elsM (K := 3) (cells := dfC) (by kernel_rfl) _ _ 34 94 rfl Tryz.underlying34 infoDf rfl (by decide) (by decide) dfCell1' (unhide OB) (by kernel_rfl) (some ⟨g3, j * 3, none⟩) (ds.length - j) (p3 - j) (ds.drop j) (by kernel_rfl) (unhide RS) (by simp; omega) (unhide SZ) ?_; intro v9 w9 o9 gr9 nn9; obtain ⟨g, c, rfl, hbg, hlg⟩ := fc_shape o9 nn9 (by simp); rw [unhide HLM] at o9; rw [unhide HLM]; have HK : Hid (MmR w g1 p1 g2 p2 g3 p3 ts cs ds nh nc nd k j M (some ⟨g3, j * 3, none⟩) (ds.length - j) (p3 - j) (l 0) (l 1) (l 2) (l 3) (l 4) (l 5) (l 6) (l 7) (l 8) (l 9) (l 10) true (l 12) (l 13) v0 v1 v2 v3 v4 (.slice (some ⟨vg, 0, none⟩) k vc) v6 v7 v8 v9 (.slice (some ⟨g3, j * 3, none⟩) (ds.length - j) (p3 - j)) (.slice (some ⟨g, 0, none⟩) M c) v12 w9) := hide ⟨((unhide HK0).bel.grown gr9 (unhide HK0).bel.size (fun q hq => by have e : vg = q := Option.some.inj hq; omega)), (fun h => ((unhide HK0).kf h).apart gr9 (fun e => by have e : w.heap.size = vg := Option.some.inj e; omega)), ((unhide HK0).kr.apart gr9 (fun e => by have e : w.heap.size + 1 + 1 = vg := Option.some.inj e; omega)), ((unhide HK0).e1), ((unhide HK0).e2), ((unhide HK0).e3), ((unhide HK0).e4), ((unhide HK0).e6), ((unhide HK0).e7), ((unhide HK0).e8), ((unhide HK0).e9), ((unhide HK0).e10), ((unhide HK0).e12), (fun _ h => by have h : l 5 = false := h; rw [d5] at h; cases h), (fun _ h => by cases h), (fun _ => ⟨g, c, rfl, o9, fun h => by have h : l 13 = true := h; rw [n13] at h; cases h⟩), (fun _ => rfl), (fun _ => d5), (fun _ => d10), ((unhide HK0).c10_7), ((unhide HK0).c5_4), ((unhide HK0).c5_0), ((unhide HK0).c4_2)⟩; clear o9 gr9 nn9 hbg hlg)
              exact ⟨rfl, MmRJ.mk (unhide HK) (by kernel_rfl)⟩
            · simp at ho
              subst ho
              have HK : Hid (MmR w g1 p1 g2 p2 g3 p3 ts cs ds nh nc nd k j M (some ⟨g3, j * 3, none⟩) (ds.length - j) (p3 - j) (l 0) (l 1) (l 2) (l 3) (l 4) (l 5) (l 6) (l 7) (l 8) (l 9) (l 10) (l 11) true (l 13) v0 v1 v2 v3 v4 v5 v6 v7 v8 v9 v10 v11 (.pointer (some ⟨w.heap.size, 2, none⟩)) V) := hide ⟨(K.bel), (K.kf), (K.kr), (K.e1), (K.e2), (K.e3), (K.e4), (K.e6), (K.e7), (K.e8), (K.e9), (K.e10), (fun _ => rfl), (K.a0), (K.a5), (K.a11), (K.c13_11), (K.c11_5), (K.c11_10), (K.c10_7), (K.c5_4), (K.c5_0), (K.c4_2)⟩
              clear K hd hl
              go_wp2_with fail
              exact ⟨rfl, MmRJ.mk (unhide HK) (by kernel_rfl)⟩
            · simp at ho
              subst ho
              have d12 : l 12 = true := hd ⟨12, .data⟩ (by simp) rfl
              have x12 := K.e12 d12
              subst x12
              have d11 : l 11 = true := hd ⟨11, .data⟩ (by simp) rfl
              obtain ⟨g, c, xg, og, _⟩ := K.a11 d11
              subst xg
              have kv := K.kf hl
              have lg := (og.lies g rfl).1
              have s5 := K.c11_5 d11
              have yy : V.cell? ⟨w.heap.size, 2, none⟩ = some (.slice (some ⟨g3, 0, none⟩) ds.length p3) := kv.c 2 (by simp)
              have ff : V.frozen? ⟨w.heap.size, 2, none⟩ = false := kv.f 2 (by simp)
              have HK : Hid (MmR w g1 p1 g2 p2 g3 p3 ts cs ds nh nc nd k j M (some ⟨g3, j * 3, none⟩) (ds.length - j) (p3 - j) (l 0) (l 1) (l 2) (l 3) (l 4) (l 5) (l 6) (l 7) (l 8) (l 9) (l 10) (l 11) (l 12) true v0 v1 v2 v3 v4 v5 v6 v7 v8 v9 v10 (.slice (some ⟨g, 0, none⟩) M c) (.pointer (some ⟨w.heap.size, 2, none⟩)) (V.setCell ⟨w.heap.size, 2, none⟩ (.slice (some ⟨g, 0, none⟩) M c))) := hide ⟨(K.bel.setCell (p := ⟨w.heap.size, 2, none⟩) (Nat.le_refl _) _), (fun h => by cases h), (K.kr.other (p := ⟨w.heap.size, 2, none⟩) (by show w.heap.size ≠ w.heap.size + 1 + 1; omega) _), (K.e1), (K.e2), (K.e3), (K.e4), (K.e6), (K.e7), (K.e8), (K.e9), (K.e10), (K.e12), (fun _ h => by have h : l 5 = false := h; rw [s5] at h; cases h), (fun _ h => by have h : l 11 = false := h; rw [d11] at h; cases h), (fun _ => ⟨g, c, rfl, og.set_other _ (by intro e; have e : g = w.heap.size := Option.some.inj e; omega), fun _ => kv.set 2 (by simp) _⟩), (fun _ => d11), (K.c11_5), (K.c11_10), (K.c10_7), (K.c5_4), (K.c5_0), (K.c4_2)⟩
              clear K hd hl kv og s5 lg
              go_wp2_with fail
              exact ⟨rfl, MmRJ.mk (unhide HK) (by kernel_rfl)⟩
          rintro l a V7 hall ⟨v0, v1, v2, v3, v4, v5, v6, v7, v8, v9, v10, v11, v12, rfl, K⟩
          obtain ⟨g, c, xg, og, kv⟩ := K.a11 (hall 11 (by decide))
          have KF7 := hide (kv (hall 13 (by decide)))
          have OG := hide og
          have KR7 := hide K.kr
          have B7 := hide K.bel
          clear K hall og kv xg
          have q0 : V7.cell? ⟨w.heap.size, 0, none⟩ = some (.slice (some ⟨g1, 0, none⟩) ts.length p1) := (unhide KF7).c 0 (by simp)
          have q1 : V7.cell? ⟨w.heap.size, 1, none⟩ = some (.slice (some ⟨g2, 0, none⟩) cs.length p2) := (unhide KF7).c 1 (by simp)
          have q2 : V7.cell? ⟨w.heap.size, 2, none⟩ = some (.slice (some ⟨g, 0, none⟩) M c) := (unhide KF7).c 2 (by simp)
          have q3 : V7.cell? ⟨w.heap.size, 3, none⟩ = some (.int .i64 nh) := (unhide KF7).c 3 (by simp)
          have q4 : V7.cell? ⟨w.heap.size, 4, none⟩ = some (.int .i64 nc) := (unhide KF7).c 4 (by simp)
          have q5 : V7.cell? ⟨w.heap.size, 5, none⟩ = some (.int .i64 nd) := (unhide KF7).c 5 (by simp)
          go_wp2_with (((with_reducible show wpList _ _ _ (⟨none, .store 37 _ _, _, _, _, none⟩ :: _) _ _); refine at_storeAgg (us := [.slice none 0 0, .slice none 0 0, .slice none 0 0, .int .i64 0, .int .i64 0, .int .i64 0]) (vs := [.slice (some ⟨g1, 0, none⟩) ts.length p1, .slice (some ⟨g2, 0, none⟩) cs.length p2, .slice (some ⟨g, 0, none⟩) M c, .int .i64 nh, .int .i64 nc, .int .i64 nd]) Tryz.sizeOf37 rfl rfl (unhide KR7) rfl (fun v hv => by simp at hv; rcases hv with rfl | rfl | rfl | rfl | rfl | rfl <;> rfl) ?_; intro w9 k9 g9; have K9 := hide k9; have G9 := hide g9; clear k9 g9))
          have lg := ((unhide OG).lies g rfl).1
          have B9 := (unhide B7).grown (unhide G9) (unhide B7).size (fun q hq => by have e : w.heap.size + 1 + 1 = q := Option.some.inj hq; omega)
          have O9 := (unhide OG).far (unhide G9) (fun q hq e => by have e1 : g = q := Option.some.inj hq; have e2 : q = w.heap.size + 1 + 1 := Option.some.inj e; omega)
          have o1 := (unhide HO).o1.below B9
          have o2 := (unhide HO).o2.below B9
          refine bodyPost_ret (results_cellB (vs := [.slice (some ⟨g1, 0, none⟩) ts.length p1, .slice (some ⟨g2, 0, none⟩) cs.length p2, .slice (some ⟨g, 0, none⟩) M c, .int .i64 nh, .int .i64 nc, .int .i64 nd]) rfl Tryz.isAgg37 Tryz.sizeOf37 rfl (unhide K9) rfl) rfl ⟨_, rfl, ⟨_, _, _, _, _, _, _, _, _, _, _, _, rfl, fun _ => by rw [unhide EF]; exact ⟨⟨o1, o2, O9.mono (by omega), (unhide HO).p12, own_ne o1 O9 (by decide), own_ne o2 O9 (by decide)⟩, rfl, rfl, rfl⟩⟩, mdG_of B9 hsz⟩
      · refine wp_region_bel (fun w' h => (unhide HA) w' ((unhide HB _).trans (h.mono (unhide HB _).size))) (by kernel_rfl) (by kernel_rfl) ?_
        (repeat (go_big_quiet_step (fail)))
        refine wpQuiet_nil ?_
        rintro _ ⟨y, rfl⟩
        have KF5 := hide ((unhide KF4).below (unhide HB y))
        have KD5 := hide ((unhide KD4).below (unhide HB y))
        have KR5 := hide ((unhide KR4).below (unhide HB y))
        have B5 := hide ((unhide B4).trans ((unhide HB y).mono (unhide B4).size))
        clear KF4 KD4 KR4 B4 d2 d5 dx HA HB
        generalize fW y = w5 at *
        go_wp2_with fail
        obtain ⟨ιfV, fV, _, hb, hall⟩ := belClass w5
        have HB := hide hb
        have HA := hide hall
        have d2 : ∀ z, (fV z).cell? ⟨w.heap.size, 2, none⟩ = some (.slice (some ⟨g3, 0, none⟩) ds.length p3) := fun z => ((unhide KF5).below (hb z)).c 2 (by simp)
        have d5 : ∀ z, (fV z).cell? ⟨w.heap.size + 1, 2, none⟩ = some (.int .i64 i) := fun z => ((unhide KD5).below (hb z)).c 2 (by simp)
        have dx : ∀ z, (fV z).cell? ⟨g3, k * 3 + 1, none⟩ = some (.int .i64 X) := fun z => by have e := (((unhide HO).o3.below ((unhide B5).trans ((hb z).mono (unhide B5).size))).here rfl k hlt 1 (by omega)).1; rw [show dfC (elAt ds k) 1 = .int .i64 (elAt ds k).i from rfl, unhide HX] at e; exact e
        clear hb hall
        obtain ⟨x0, h0⟩ := (unhide HA) w5 (Below.refl _ _)
        rw [h0]
        clear h0
        have e2 : decide (X = i) = false := by simpa using q2
        refine wp_region_bel (fun w' h => (unhide HA) w' ((unhide HB _).trans (h.mono (unhide HB _).size))) (by kernel_rfl) (by kernel_rfl) ?_
        (repeat (go_big_quiet_step (fail)))
        refine wpQuiet_nil ?_
        rintro _ ⟨y, rfl⟩
        have KF6 := hide ((unhide KF5).below (unhide HB y))
        have KD6 := hide ((unhide KD5).below (unhide HB y))
        have KR6 := hide ((unhide KR5).below (unhide HB y))
        have B6 := hide ((unhide B5).trans ((unhide HB y).mono (unhide B5).size))
        clear KF5 KD5 KR5 B5 d2 d5 dx HA HB
        generalize fV y = w6 at *
        have eB := (unhide E2) k hk (unhide AL) (.inr (by rw [unhide HX]; omega))
        subst eB
        clear E1 E2 AL
        have q0 : w6.cell? ⟨w.heap.size, 0, none⟩ = some (.slice (some ⟨g1, 0, none⟩) ts.length p1) := (unhide KF6).c 0 (by simp)
        have q1 : w6.cell? ⟨w.heap.size, 1, none⟩ = some (.slice (some ⟨g2, 0, none⟩) cs.length p2) := (unhide KF6).c 1 (by simp)
        have q2 : w6.cell? ⟨w.heap.size, 2, none⟩ = some (.slice (some ⟨g3, 0, none⟩) ds.length p3) := (unhide KF6).c 2 (by simp)
        have q3 : w6.cell? ⟨w.heap.size, 3, none⟩ = some (.int .i64 nh) := (unhide KF6).c 3 (by simp)
        have q4 : w6.cell? ⟨w.heap.size, 4, none⟩ = some (.int .i64 nc) := (unhide KF6).c 4 (by simp)
        have q5 : w6.cell? ⟨w.heap.size, 5, none⟩ = some (.int .i64 nd) := (unhide KF6).c 5 (by simp)
        have y0 : w6.cell? ⟨w.heap.size + 1, 0, none⟩ = some (.int .i64 4) := (unhide KD6).c 0 (by simp)
        have y1 : w6.cell? ⟨w.heap.size + 1, 1, none⟩ = some (.string n) := (unhide KD6).c 1 (by simp)
        have y2 : w6.cell? ⟨w.heap.size + 1, 2, none⟩ = some (.int .i64 i) := (unhide KD6).c 2 (by simp)
        have y3 : w6.cell? ⟨w.heap.size + 1, 3, none⟩ = some (.int .i64 m) := (unhide KD6).c 3 (by simp)
        go_wp2_with (((with_reducible show wpList _ _ _ (⟨none, .store 37 _ _, _, _, _, none⟩ :: _) _ _); refine at_storeAgg (us := [.slice none 0 0, .slice none 0 0, .slice none 0 0, .int .i64 0, .int .i64 0, .int .i64 0]) (vs := [.slice (some ⟨g1, 0, none⟩) ts.length p1, .slice (some ⟨g2, 0, none⟩) cs.length p2, .slice (some ⟨g3, 0, none⟩) ds.length p3, .int .i64 nh, .int .i64 nc, .int .i64 nd]) Tryz.sizeOf37 rfl rfl (unhide KR6) rfl (fun v hv => by simp at hv; rcases hv with rfl | rfl | rfl | rfl | rfl | rfl <;> rfl) ?_; intro w9 k9 g9; have K9 := hide k9; have G9 := hide g9; clear k9 g9))
        refine bodyPost_ret (results_cellB (vs := [.slice (some ⟨g1, 0, none⟩) ts.length p1, .slice (some ⟨g2, 0, none⟩) cs.length p2, .slice (some ⟨g3, 0, none⟩) ds.length p3, .int .i64 nh, .int .i64 nc, .int .i64 nd]) rfl Tryz.isAgg37 Tryz.sizeOf37 rfl (unhide K9) rfl) rfl ⟨_, rfl, ⟨_, _, _, _, _, _, _, _, _, _, _, _, rfl, fun h => by cases h⟩, mdG_of ((unhide B6).grown (unhide G9) (unhide B6).size (fun q hq => by have e : w.heap.size + 1 + 1 = q := Option.some.inj hq; omega)) hsz⟩
    · have hi1 : ¬ (k : Int) < (ds.length : Int) := by omega
      go_wp2_with fail
      obtain ⟨ιfW, fW, _, hb, hall⟩ := belClass wr
      have HB := hide hb
      have HA := hide hall
      have d2 : ∀ z, (fW z).cell? ⟨w.heap.size, 2, none⟩ = some (.slice (some ⟨g3, 0, none⟩) ds.length p3) := fun z => ((unhide KF4).below (hb z)).c 2 (by simp)
      have d5 : ∀ z, (fW z).cell? ⟨w.heap.size + 1, 2, none⟩ = some (.int .i64 i) := fun z => ((unhide KD4).below (hb z)).c 2 (by simp)
      clear hb hall
      obtain ⟨x0, h0⟩ := (unhide HA) wr (Below.refl _ _)
      rw [h0]
      clear h0
      refine wp_region_bel (fun w' h => (unhide HA) w' ((unhide HB _).trans (h.mono (unhide HB _).size))) (by kernel_rfl) (by kernel_rfl) ?_
      (repeat (go_big_quiet_step (fail)))
      refine wpQuiet_nil ?_
      rintro _ ⟨y, rfl⟩
      have KF5 := hide ((unhide KF4).below (unhide HB y))
      have KD5 := hide ((unhide KD4).below (unhide HB y))
      have KR5 := hide ((unhide KR4).below (unhide HB y))
      have B5 := hide ((unhide B4).trans ((unhide HB y).mono (unhide B4).size))
      clear KF4 KD4 KR4 B4 d2 d5 HA HB
      generalize fW y = w5 at *
      go_wp2_with fail
      obtain ⟨ιfV, fV, _, hb, hall⟩ := belClass w5
      have HB := hide hb
      have HA := hide hall
      have d2 : ∀ z, (fV z).cell? ⟨w.heap.size, 2, none⟩ = some (.slice (some ⟨g3, 0, none⟩) ds.length p3) := fun z => ((unhide KF5).below (hb z)).c 2 (by simp)
      have d5 : ∀ z, (fV z).cell? ⟨w.heap.size + 1, 2, none⟩ = some (.int .i64 i) := fun z => ((unhide KD5).below (hb z)).c 2 (by simp)
      clear hb hall
      obtain ⟨x0, h0⟩ := (unhide HA) w5 (Below.refl _ _)
      rw [h0]
      clear h0
      refine wp_region_bel (fun w' h => (unhide HA) w' ((unhide HB _).trans (h.mono (unhide HB _).size))) (by kernel_rfl) (by kernel_rfl) ?_
      (repeat (go_big_quiet_step (fail)))
      refine wpQuiet_nil ?_
      rintro _ ⟨y, rfl⟩
      have KF6 := hide ((unhide KF5).below (unhide HB y))
      have KD6 := hide ((unhide KD5).below (unhide HB y))
      have KR6 := hide ((unhide KR5).below (unhide HB y))
      have B6 := hide ((unhide B5).trans ((unhide HB y).mono (unhide B5).size))
      clear KF5 KD5 KR5 B5 d2 d5 HA HB
      generalize fV y = w6 at *
      have eB := (unhide E2) k hk (unhide AL) (.inl (by omega))
      subst eB
      clear E1 E2 AL
      have q0 : w6.cell? ⟨w.heap.size, 0, none⟩ = some (.slice (some ⟨g1, 0, none⟩) ts.length p1) := (unhide KF6).c 0 (by simp)
      have q1 : w6.cell? ⟨w.heap.size, 1, none⟩ = some (.slice (some ⟨g2, 0, none⟩) cs.length p2) := (unhide KF6).c 1 (by simp)
      have q2 : w6.cell? ⟨w.heap.size, 2, none⟩ = some (.slice (some ⟨g3, 0, none⟩) ds.length p3) := (unhide KF6).c 2 (by simp)
      have q3 : w6.cell? ⟨w.heap.size, 3, none⟩ = some (.int .i64 nh) := (unhide KF6).c 3 (by simp)
      have q4 : w6.cell? ⟨w.heap.size, 4, none⟩ = some (.int .i64 nc) := (unhide KF6).c 4 (by simp)
      have q5 : w6.cell? ⟨w.heap.size, 5, none⟩ = some (.int .i64 nd) := (unhide KF6).c 5 (by simp)
      have y0 : w6.cell? ⟨w.heap.size + 1, 0, none⟩ = some (.int .i64 4) := (unhide KD6).c 0 (by simp)
      have y1 : w6.cell? ⟨w.heap.size + 1, 1, none⟩ = some (.string n) := (unhide KD6).c 1 (by simp)
      have y2 : w6.cell? ⟨w.heap.size + 1, 2, none⟩ = some (.int .i64 i) := (unhide KD6).c 2 (by simp)
      have y3 : w6.cell? ⟨w.heap.size + 1, 3, none⟩ = some (.int .i64 m) := (unhide KD6).c 3 (by simp)
      go_wp2_with (((with_reducible show wpList _ _ _ (⟨none, .store 37 _ _, _, _, _, none⟩ :: _) _ _); refine at_storeAgg (us := [.slice none 0 0, .slice none 0 0, .slice none 0 0, .int .i64 0, .int .i64 0, .int .i64 0]) (vs := [.slice (some ⟨g1, 0, none⟩) ts.length p1, .slice (some ⟨g2, 0, none⟩) cs.length p2, .slice (some ⟨g3, 0, none⟩) ds.length p3, .int .i64 nh, .int .i64 nc, .int .i64 nd]) Tryz.sizeOf37 rfl rfl (unhide KR6) rfl (fun v hv => by simp at hv; rcases hv with rfl | rfl | rfl | rfl | rfl | rfl <;> rfl) ?_; intro w9 k9 g9; have K9 := hide k9; have G9 := hide g9; clear k9 g9))
      refine bodyPost_ret (results_cellB (vs := [.slice (some ⟨g1, 0, none⟩) ts.length p1, .slice (some ⟨g2, 0, none⟩) cs.length p2, .slice (some ⟨g3, 0, none⟩) ds.length p3, .int .i64 nh, .int .i64 nc, .int .i64 nd]) rfl Tryz.isAgg37 Tryz.sizeOf37 rfl (unhide K9) rfl) rfl ⟨_, rfl, ⟨_, _, _, _, _, _, _, _, _, _, _, _, rfl, fun h => by cases h⟩, mdG_of ((unhide B6).grown (unhide G9) (unhide B6).size (fun q hq => by have e : w.heap.size + 1 + 1 = q := Option.some.inj hq; omega)) hsz⟩
set_option maxRecDepth 20000 in
set_option maxHeartbeats 16000000 in
theorem md_6 (base g1 p1 g2 p2 g3 p3 : Nat) (ts : List Ts) (cs : List Cr) (ds : List Df) (nh nc nd : Int) (n : ByteArray) (i m kd : Int) (w : World) (ho : FlOwn w base (some ⟨g1, 0, none⟩) (some ⟨g2, 0, none⟩) (some ⟨g3, 0, none⟩) ts.length p1 cs.length p2 ds.length p3 ts cs ds) (ff : FitF ⟨ts, cs, ds, nh, nc, nd⟩) (hf : flB ⟨ts, cs, ds, nh, nc, nd⟩ = true) (n1 : kd ≠ 1) (n2 : kd ≠ 2) (n3 : kd ≠ 3) (n4 : kd ≠ 4) (n5 : kd ≠ 5) :
    Calls Tryz.prog 49 #[.agg #[.slice (some ⟨g1, 0, none⟩) ts.length p1, .slice (some ⟨g2, 0, none⟩) cs.length p2, .slice (some ⟨g3, 0, none⟩) ds.length p3, .int .i64 nh, .int .i64 nc, .int .i64 nd], .agg #[.int .i64 kd, .string n, .int .i64 i, .int .i64 m]] w fun e w' => ∃ v, e = .returned (.tuple #[v, .bool (dwB ⟨ts, cs, ds, nh, nc, nd⟩ ⟨kd, n, i, m⟩)]) ∧ MdO w' base v (dwF ⟨ts, cs, ds, nh, nc, nd⟩ ⟨kd, n, i, m⟩) (dwB ⟨ts, cs, ds, nh, nc, nd⟩ ⟨kd, n, i, m⟩) ∧ MdG base g1 w w' := by
  have E2 : Hid (dwB ⟨ts, cs, ds, nh, nc, nd⟩ ⟨kd, n, i, m⟩ = false) := hide (dw6 n1 n2 n3 n4 n5)
  obtain ⟨f', hf'⟩ : ∃ x, dwF ⟨ts, cs, ds, nh, nc, nd⟩ ⟨kd, n, i, m⟩ = x := ⟨_, rfl⟩
  rw [hf', unhide E2]
  clear hf' E2
  have hl : ds.length ≤ 20 := by obtain ⟨_, _, _, f4⟩ := flB_facts hf; obtain ⟨k2, _, _⟩ := listI_facts f4; exact k2
  have hsz : base ≤ w.heap.size := by have := ho.o1.lies g1 rfl; omega
  obtain ⟨V0, hV0⟩ : ∃ V, V = ((w.alloc (Obj.cells #[.slice (some ⟨g1, 0, none⟩) ts.length p1, .slice (some ⟨g2, 0, none⟩) cs.length p2, .slice (some ⟨g3, 0, none⟩) ds.length p3, .int .i64 nh, .int .i64 nc, .int .i64 nd] 37)).alloc (Obj.cells #[.int .i64 kd, .string n, .int .i64 i, .int .i64 m] 60)).alloc (Obj.cells #[.slice none 0 0, .slice none 0 0, .slice none 0 0, .int .i64 0, .int .i64 0, .int .i64 0] 37) := ⟨_, rfl⟩
  have bV : Below w.heap.size w V0 := by rw [hV0]; exact bel3 _ _ _
  have KF0 : Hid (Blk V0 (w.heap.size) [.slice (some ⟨g1, 0, none⟩) ts.length p1, .slice (some ⟨g2, 0, none⟩) cs.length p2, .slice (some ⟨g3, 0, none⟩) ds.length p3, .int .i64 nh, .int .i64 nc, .int .i64 nd]) := hide (by rw [hV0]; exact blkAt3_0)
  have KD0 : Hid (Blk V0 (w.heap.size + 1) [.int .i64 kd, .string n, .int .i64 i, .int .i64 m]) := hide (by rw [hV0]; exact blkAt3_1)
  have KR0 : Hid (Blk V0 (w.heap.size + 1 + 1) [.slice none 0 0, .slice none 0 0, .slice none 0 0, .int .i64 0, .int .i64 0, .int .i64 0]) := hide (by rw [hV0]; exact blkAt3_2)
  have B0 := hide bV
  have HO := hide ho
  have HW := hide hV0
  have FF := hide ff
  have y0 : V0.cell? ⟨w.heap.size + 1, 0, none⟩ = some (.int .i64 kd) := (unhide KD0).c 0 (by simp)
  have y1 : V0.cell? ⟨w.heap.size + 1, 1, none⟩ = some (.string n) := (unhide KD0).c 1 (by simp)
  have y2 : V0.cell? ⟨w.heap.size + 1, 2, none⟩ = some (.int .i64 i) := (unhide KD0).c 2 (by simp)
  have y3 : V0.cell? ⟨w.heap.size + 1, 3, none⟩ = some (.int .i64 m) := (unhide KD0).c 3 (by simp)
  have q0 : V0.cell? ⟨w.heap.size, 0, none⟩ = some (.slice (some ⟨g1, 0, none⟩) ts.length p1) := (unhide KF0).c 0 (by simp)
  have q1 : V0.cell? ⟨w.heap.size, 1, none⟩ = some (.slice (some ⟨g2, 0, none⟩) cs.length p2) := (unhide KF0).c 1 (by simp)
  have q2 : V0.cell? ⟨w.heap.size, 2, none⟩ = some (.slice (some ⟨g3, 0, none⟩) ds.length p3) := (unhide KF0).c 2 (by simp)
  have q3 : V0.cell? ⟨w.heap.size, 3, none⟩ = some (.int .i64 nh) := (unhide KF0).c 3 (by simp)
  have q4 : V0.cell? ⟨w.heap.size, 4, none⟩ = some (.int .i64 nc) := (unhide KF0).c 4 (by simp)
  have q5 : V0.cell? ⟨w.heap.size, 5, none⟩ = some (.int .i64 nd) := (unhide KF0).c 5 (by simp)
  clear hV0 ff
  go_enter Tryz.func49, Tryz.ntmps49
  go_upto_region 1 with fail
  rw [← unhide HW]
  clear HW
  clear y0 y1 y2 y3 q0 q1 q2 q3 q4 q5
  have y0 : V0.cell? ⟨w.heap.size + 1, 0, none⟩ = some (.int .i64 kd) := (unhide KD0).c 0 (by simp)
  go_wp2_with fail
  go_loopw [9] (fun u wr => ∃ k : Nat, u = .int .i64 k ∧ k ≤ ds.length ∧ Hid (Blk wr (w.heap.size) [.slice (some ⟨g1, 0, none⟩) ts.length p1, .slice (some ⟨g2, 0, none⟩) cs.length p2, .slice (some ⟨g3, 0, none⟩) ds.length p3, .int .i64 nh, .int .i64 nc, .int .i64 nd]) ∧ Hid (Blk wr (w.heap.size + 1) [.int .i64 kd, .string n, .int .i64 i, .int .i64 m]) ∧ Hid (Blk wr (w.heap.size + 1 + 1) [.slice none 0 0, .slice none 0 0, .slice none 0 0, .int .i64 0, .int .i64 0, .int .i64 0]) ∧ Hid (Below w.heap.size w wr) ∧ Hid (∀ j, j < k → (elAt ds j).i < i)) (fun u _ => ds.length - (intOf u).toNat)
  case atStart => exact ⟨0, rfl, Nat.zero_le _, KF0, KD0, KR0, B0, hide (fun j hj => by omega)⟩
  case round =>
    obtain ⟨k, rfl, hk, KF4, KD4, KR4, B4, AL⟩ := hrel
    by_cases hlt : k < ds.length
    · have hi1 : (k : Int) < (ds.length : Int) := by omega
      have hi0 : (0 : Int) ≤ (k : Int) := by omega
      obtain ⟨X, hX⟩ : ∃ x, (elAt ds k).i = x := ⟨_, rfl⟩
      have HX := hide hX
      clear hX
      go_wp2_with fail
      obtain ⟨ιfW, fW, _, hb, hall⟩ := belClass wr
      have HB := hide hb
      have HA := hide hall
      have d2 : ∀ z, (fW z).cell? ⟨w.heap.size, 2, none⟩ = some (.slice (some ⟨g3, 0, none⟩) ds.length p3) := fun z => ((unhide KF4).below (hb z)).c 2 (by simp)
      have d5 : ∀ z, (fW z).cell? ⟨w.heap.size + 1, 2, none⟩ = some (.int .i64 i) := fun z => ((unhide KD4).below (hb z)).c 2 (by simp)
      have dx : ∀ z, (fW z).cell? ⟨g3, k * 3 + 1, none⟩ = some (.int .i64 X) := fun z => by have e := (((unhide HO).o3.below ((unhide B4).trans ((hb z).mono (unhide B4).size))).here rfl k hlt 1 (by omega)).1; rw [show dfC (elAt ds k) 1 = .int .i64 (elAt ds k).i from rfl, unhide HX] at e; exact e
      clear hb hall
      obtain ⟨x0, h0⟩ := (unhide HA) wr (Below.refl _ _)
      rw [h0]
      clear h0
      by_cases q : X < i
      · refine wp_region_bel (fun w' h => (unhide HA) w' ((unhide HB _).trans (h.mono (unhide HB _).size))) (by kernel_rfl) (by kernel_rfl) ?_
        (repeat (go_big_quiet_step (fail)))
        refine wpQuiet_nil ?_
        rintro _ ⟨y, rfl⟩
        have KF5 := hide ((unhide KF4).below (unhide HB y))
        have KD5 := hide ((unhide KD4).below (unhide HB y))
        have KR5 := hide ((unhide KR4).below (unhide HB y))
        have B5 := hide ((unhide B4).trans ((unhide HB y).mono (unhide B4).size))
        clear KF4 KD4 KR4 B4 d2 d5 dx HA HB
        generalize fW y = w5 at *
        have NA : Hid (∀ j, j < k + 1 → (elAt ds j).i < i) := hide (fun j hj => by
          by_cases e3 : j = k
          · rw [e3, unhide HX]; exact q
          · exact (unhide AL) j (by omega))
        clear AL
        go_wp2_with fail
        go_roundw
        case rel => exact ⟨k + 1, by go_num, by omega, KF5, KD5, KR5, B5, NA⟩
        case measure => simp [intOf]; omega
      by_cases q2 : X = i
      · refine wp_region_bel (fun w' h => (unhide HA) w' ((unhide HB _).trans (h.mono (unhide HB _).size))) (by kernel_rfl) (by kernel_rfl) ?_
        (repeat (go_big_quiet_step (fail)))
        refine wpQuiet_nil ?_
        rintro _ ⟨y, rfl⟩
        have KF5 := hide ((unhide KF4).below (unhide HB y))
        have KD5 := hide ((unhide KD4).below (unhide HB y))
        have KR5 := hide ((unhide KR4).below (unhide HB y))
        have B5 := hide ((unhide B4).trans ((unhide HB y).mono (unhide B4).size))
        clear KF4 KD4 KR4 B4 d2 d5 dx HA HB
        generalize fW y = w5 at *
        go_wp2_with fail
        obtain ⟨ιfV, fV, _, hb, hall⟩ := belClass w5
        have HB := hide hb
        have HA := hide hall
        have d2 : ∀ z, (fV z).cell? ⟨w.heap.size, 2, none⟩ = some (.slice (some ⟨g3, 0, none⟩) ds.length p3) := fun z => ((unhide KF5).below (hb z)).c 2 (by simp)
        have d5 : ∀ z, (fV z).cell? ⟨w.heap.size + 1, 2, none⟩ = some (.int .i64 i) := fun z => ((unhide KD5).below (hb z)).c 2 (by simp)
        have dx : ∀ z, (fV z).cell? ⟨g3, k * 3 + 1, none⟩ = some (.int .i64 X) := fun z => by have e := (((unhide HO).o3.below ((unhide B5).trans ((hb z).mono (unhide B5).size))).here rfl k hlt 1 (by omega)).1; rw [show dfC (elAt ds k) 1 = .int .i64 (elAt ds k).i from rfl, unhide HX] at e; exact e
        clear hb hall
        obtain ⟨x0, h0⟩ := (unhide HA) w5 (Below.refl _ _)
        rw [h0]
        clear h0
        have e2 : decide (X = i) = true := by simpa using q2
        refine wp_region_bel (fun w' h => (unhide HA) w' ((unhide HB _).trans (h.mono (unhide HB _).size))) (by kernel_rfl) (by kernel_rfl) ?_
        (repeat (go_big_quiet_step (fail)))
        refine wpQuiet_nil ?_
        rintro _ ⟨y, rfl⟩
        have KF6 := hide ((unhide KF5).below (unhide HB y))
        have KD6 := hide ((unhide KD5).below (unhide HB y))
        have KR6 := hide ((unhide KR5).below (unhide HB y))
        have B6 := hide ((unhide B5).trans ((unhide HB y).mono (unhide B5).size))
        clear KF5 KD5 KR5 B5 d2 d5 dx HA HB
        generalize fV y = w6 at *
        have q0 : w6.cell? ⟨w.heap.size, 0, none⟩ = some (.slice (some ⟨g1, 0, none⟩) ts.length p1) := (unhide KF6).c 0 (by simp)
        have q1 : w6.cell? ⟨w.heap.size, 1, none⟩ = some (.slice (some ⟨g2, 0, none⟩) cs.length p2) := (unhide KF6).c 1 (by simp)
        have q2 : w6.cell? ⟨w.heap.size, 2, none⟩ = some (.slice (some ⟨g3, 0, none⟩) ds.length p3) := (unhide KF6).c 2 (by simp)
        have q3 : w6.cell? ⟨w.heap.size, 3, none⟩ = some (.int .i64 nh) := (unhide KF6).c 3 (by simp)
        have q4 : w6.cell? ⟨w.heap.size, 4, none⟩ = some (.int .i64 nc) := (unhide KF6).c 4 (by simp)
        have q5 : w6.cell? ⟨w.heap.size, 5, none⟩ = some (.int .i64 nd) := (unhide KF6).c 5 (by simp)
        have y0 : w6.cell? ⟨w.heap.size + 1, 0, none⟩ = some (.int .i64 kd) := (unhide KD6).c 0 (by simp)
        have y1 : w6.cell? ⟨w.heap.size + 1, 1, none⟩ = some (.string n) := (unhide KD6).c 1 (by simp)
        have y2 : w6.cell? ⟨w.heap.size + 1, 2, none⟩ = some (.int .i64 i) := (unhide KD6).c 2 (by simp)
        have y3 : w6.cell? ⟨w.heap.size + 1, 3, none⟩ = some (.int .i64 m) := (unhide KD6).c 3 (by simp)
        go_wp2_with (((with_reducible show wpList _ _ _ (⟨none, .store 37 _ _, _, _, _, none⟩ :: _) _ _); refine at_storeAgg (us := [.slice none 0 0, .slice none 0 0, .slice none 0 0, .int .i64 0, .int .i64 0, .int .i64 0]) (vs := [.slice (some ⟨g1, 0, none⟩) ts.length p1, .slice (some ⟨g2, 0, none⟩) cs.length p2, .slice (some ⟨g3, 0, none⟩) ds.length p3, .int .i64 nh, .int .i64 nc, .int .i64 nd]) Tryz.sizeOf37 rfl rfl (unhide KR6) rfl (fun v hv => by simp at hv; rcases hv with rfl | rfl | rfl | rfl | rfl | rfl <;> rfl) ?_; intro w9 k9 g9; have K9 := hide k9; have G9 := hide g9; clear k9 g9))
        refine bodyPost_ret (results_cellB (vs := [.slice (some ⟨g1, 0, none⟩) ts.length p1, .slice (some ⟨g2, 0, none⟩) cs.length p2, .slice (some ⟨g3, 0, none⟩) ds.length p3, .int .i64 nh, .int .i64 nc, .int .i64 nd]) rfl Tryz.isAgg37 Tryz.sizeOf37 rfl (unhide K9) rfl) rfl ⟨_, rfl, ⟨_, _, _, _, _, _, _, _, _, _, _, _, rfl, fun h => by cases h⟩, mdG_of ((unhide B6).grown (unhide G9) (unhide B6).size (fun q hq => by have e : w.heap.size + 1 + 1 = q := Option.some.inj hq; omega)) hsz⟩
      · refine wp_region_bel (fun w' h => (unhide HA) w' ((unhide HB _).trans (h.mono (unhide HB _).size))) (by kernel_rfl) (by kernel_rfl) ?_
        (repeat (go_big_quiet_step (fail)))
        refine wpQuiet_nil ?_
        rintro _ ⟨y, rfl⟩
        have KF5 := hide ((unhide KF4).below (unhide HB y))
        have KD5 := hide ((unhide KD4).below (unhide HB y))
        have KR5 := hide ((unhide KR4).below (unhide HB y))
        have B5 := hide ((unhide B4).trans ((unhide HB y).mono (unhide B4).size))
        clear KF4 KD4 KR4 B4 d2 d5 dx HA HB
        generalize fW y = w5 at *
        go_wp2_with fail
        obtain ⟨ιfV, fV, _, hb, hall⟩ := belClass w5
        have HB := hide hb
        have HA := hide hall
        have d2 : ∀ z, (fV z).cell? ⟨w.heap.size, 2, none⟩ = some (.slice (some ⟨g3, 0, none⟩) ds.length p3) := fun z => ((unhide KF5).below (hb z)).c 2 (by simp)
        have d5 : ∀ z, (fV z).cell? ⟨w.heap.size + 1, 2, none⟩ = some (.int .i64 i) := fun z => ((unhide KD5).below (hb z)).c 2 (by simp)
        have dx : ∀ z, (fV z).cell? ⟨g3, k * 3 + 1, none⟩ = some (.int .i64 X) := fun z => by have e := (((unhide HO).o3.below ((unhide B5).trans ((hb z).mono (unhide B5).size))).here rfl k hlt 1 (by omega)).1; rw [show dfC (elAt ds k) 1 = .int .i64 (elAt ds k).i from rfl, unhide HX] at e; exact e
        clear hb hall
        obtain ⟨x0, h0⟩ := (unhide HA) w5 (Below.refl _ _)
        rw [h0]
        clear h0
        have e2 : decide (X = i) = false := by simpa using q2
        refine wp_region_bel (fun w' h => (unhide HA) w' ((unhide HB _).trans (h.mono (unhide HB _).size))) (by kernel_rfl) (by kernel_rfl) ?_
        (repeat (go_big_quiet_step (fail)))
        refine wpQuiet_nil ?_
        rintro _ ⟨y, rfl⟩
        have KF6 := hide ((unhide KF5).below (unhide HB y))
        have KD6 := hide ((unhide KD5).below (unhide HB y))
        have KR6 := hide ((unhide KR5).below (unhide HB y))
        have B6 := hide ((unhide B5).trans ((unhide HB y).mono (unhide B5).size))
        clear KF5 KD5 KR5 B5 d2 d5 dx HA HB
        generalize fV y = w6 at *
        have q0 : w6.cell? ⟨w.heap.size, 0, none⟩ = some (.slice (some ⟨g1, 0, none⟩) ts.length p1) := (unhide KF6).c 0 (by simp)
        have q1 : w6.cell? ⟨w.heap.size, 1, none⟩ = some (.slice (some ⟨g2, 0, none⟩) cs.length p2) := (unhide KF6).c 1 (by simp)
        have q2 : w6.cell? ⟨w.heap.size, 2, none⟩ = some (.slice (some ⟨g3, 0, none⟩) ds.length p3) := (unhide KF6).c 2 (by simp)
        have q3 : w6.cell? ⟨w.heap.size, 3, none⟩ = some (.int .i64 nh) := (unhide KF6).c 3 (by simp)
        have q4 : w6.cell? ⟨w.heap.size, 4, none⟩ = some (.int .i64 nc) := (unhide KF6).c 4 (by simp)
        have q5 : w6.cell? ⟨w.heap.size, 5, none⟩ = some (.int .i64 nd) := (unhide KF6).c 5 (by simp)
        have y0 : w6.cell? ⟨w.heap.size + 1, 0, none⟩ = some (.int .i64 kd) := (unhide KD6).c 0 (by simp)
        have y1 : w6.cell? ⟨w.heap.size + 1, 1, none⟩ = some (.string n) := (unhide KD6).c 1 (by simp)
        have y2 : w6.cell? ⟨w.heap.size + 1, 2, none⟩ = some (.int .i64 i) := (unhide KD6).c 2 (by simp)
        have y3 : w6.cell? ⟨w.heap.size + 1, 3, none⟩ = some (.int .i64 m) := (unhide KD6).c 3 (by simp)
        go_wp2_with (((with_reducible show wpList _ _ _ (⟨none, .store 37 _ _, _, _, _, none⟩ :: _) _ _); refine at_storeAgg (us := [.slice none 0 0, .slice none 0 0, .slice none 0 0, .int .i64 0, .int .i64 0, .int .i64 0]) (vs := [.slice (some ⟨g1, 0, none⟩) ts.length p1, .slice (some ⟨g2, 0, none⟩) cs.length p2, .slice (some ⟨g3, 0, none⟩) ds.length p3, .int .i64 nh, .int .i64 nc, .int .i64 nd]) Tryz.sizeOf37 rfl rfl (unhide KR6) rfl (fun v hv => by simp at hv; rcases hv with rfl | rfl | rfl | rfl | rfl | rfl <;> rfl) ?_; intro w9 k9 g9; have K9 := hide k9; have G9 := hide g9; clear k9 g9))
        refine bodyPost_ret (results_cellB (vs := [.slice (some ⟨g1, 0, none⟩) ts.length p1, .slice (some ⟨g2, 0, none⟩) cs.length p2, .slice (some ⟨g3, 0, none⟩) ds.length p3, .int .i64 nh, .int .i64 nc, .int .i64 nd]) rfl Tryz.isAgg37 Tryz.sizeOf37 rfl (unhide K9) rfl) rfl ⟨_, rfl, ⟨_, _, _, _, _, _, _, _, _, _, _, _, rfl, fun h => by cases h⟩, mdG_of ((unhide B6).grown (unhide G9) (unhide B6).size (fun q hq => by have e : w.heap.size + 1 + 1 = q := Option.some.inj hq; omega)) hsz⟩
    · have hi1 : ¬ (k : Int) < (ds.length : Int) := by omega
      go_wp2_with fail
      obtain ⟨ιfW, fW, _, hb, hall⟩ := belClass wr
      have HB := hide hb
      have HA := hide hall
      have d2 : ∀ z, (fW z).cell? ⟨w.heap.size, 2, none⟩ = some (.slice (some ⟨g3, 0, none⟩) ds.length p3) := fun z => ((unhide KF4).below (hb z)).c 2 (by simp)
      have d5 : ∀ z, (fW z).cell? ⟨w.heap.size + 1, 2, none⟩ = some (.int .i64 i) := fun z => ((unhide KD4).below (hb z)).c 2 (by simp)
      clear hb hall
      obtain ⟨x0, h0⟩ := (unhide HA) wr (Below.refl _ _)
      rw [h0]
      clear h0
      refine wp_region_bel (fun w' h => (unhide HA) w' ((unhide HB _).trans (h.mono (unhide HB _).size))) (by kernel_rfl) (by kernel_rfl) ?_
      (repeat (go_big_quiet_step (fail)))
      refine wpQuiet_nil ?_
      rintro _ ⟨y, rfl⟩
      have KF5 := hide ((unhide KF4).below (unhide HB y))
      have KD5 := hide ((unhide KD4).below (unhide HB y))
      have KR5 := hide ((unhide KR4).below (unhide HB y))
      have B5 := hide ((unhide B4).trans ((unhide HB y).mono (unhide B4).size))
      clear KF4 KD4 KR4 B4 d2 d5 HA HB
      generalize fW y = w5 at *
      go_wp2_with fail
      obtain ⟨ιfV, fV, _, hb, hall⟩ := belClass w5
      have HB := hide hb
      have HA := hide hall
      have d2 : ∀ z, (fV z).cell? ⟨w.heap.size, 2, none⟩ = some (.slice (some ⟨g3, 0, none⟩) ds.length p3) := fun z => ((unhide KF5).below (hb z)).c 2 (by simp)
      have d5 : ∀ z, (fV z).cell? ⟨w.heap.size + 1, 2, none⟩ = some (.int .i64 i) := fun z => ((unhide KD5).below (hb z)).c 2 (by simp)
      clear hb hall
      obtain ⟨x0, h0⟩ := (unhide HA) w5 (Below.refl _ _)
      rw [h0]
      clear h0
      refine wp_region_bel (fun w' h => (unhide HA) w' ((unhide HB _).trans (h.mono (unhide HB _).size))) (by kernel_rfl) (by kernel_rfl) ?_
      (repeat (go_big_quiet_step (fail)))
      refine wpQuiet_nil ?_
      rintro _ ⟨y, rfl⟩
      have KF6 := hide ((unhide KF5).below (unhide HB y))
      have KD6 := hide ((unhide KD5).below (unhide HB y))
      have KR6 := hide ((unhide KR5).below (unhide HB y))
      have B6 := hide ((unhide B5).trans ((unhide HB y).mono (unhide B5).size))
      clear KF5 KD5 KR5 B5 d2 d5 HA HB
      generalize fV y = w6 at *
      have q0 : w6.cell? ⟨w.heap.size, 0, none⟩ = some (.slice (some ⟨g1, 0, none⟩) ts.length p1) := (unhide KF6).c 0 (by simp)
      have q1 : w6.cell? ⟨w.heap.size, 1, none⟩ = some (.slice (some ⟨g2, 0, none⟩) cs.length p2) := (unhide KF6).c 1 (by simp)
      have q2 : w6.cell? ⟨w.heap.size, 2, none⟩ = some (.slice (some ⟨g3, 0, none⟩) ds.length p3) := (unhide KF6).c 2 (by simp)
      have q3 : w6.cell? ⟨w.heap.size, 3, none⟩ = some (.int .i64 nh) := (unhide KF6).c 3 (by simp)
      have q4 : w6.cell? ⟨w.heap.size, 4, none⟩ = some (.int .i64 nc) := (unhide KF6).c 4 (by simp)
      have q5 : w6.cell? ⟨w.heap.size, 5, none⟩ = some (.int .i64 nd) := (unhide KF6).c 5 (by simp)
      have y0 : w6.cell? ⟨w.heap.size + 1, 0, none⟩ = some (.int .i64 kd) := (unhide KD6).c 0 (by simp)
      have y1 : w6.cell? ⟨w.heap.size + 1, 1, none⟩ = some (.string n) := (unhide KD6).c 1 (by simp)
      have y2 : w6.cell? ⟨w.heap.size + 1, 2, none⟩ = some (.int .i64 i) := (unhide KD6).c 2 (by simp)
      have y3 : w6.cell? ⟨w.heap.size + 1, 3, none⟩ = some (.int .i64 m) := (unhide KD6).c 3 (by simp)
      go_wp2_with (((with_reducible show wpList _ _ _ (⟨none, .store 37 _ _, _, _, _, none⟩ :: _) _ _); refine at_storeAgg (us := [.slice none 0 0, .slice none 0 0, .slice none 0 0, .int .i64 0, .int .i64 0, .int .i64 0]) (vs := [.slice (some ⟨g1, 0, none⟩) ts.length p1, .slice (some ⟨g2, 0, none⟩) cs.length p2, .slice (some ⟨g3, 0, none⟩) ds.length p3, .int .i64 nh, .int .i64 nc, .int .i64 nd]) Tryz.sizeOf37 rfl rfl (unhide KR6) rfl (fun v hv => by simp at hv; rcases hv with rfl | rfl | rfl | rfl | rfl | rfl <;> rfl) ?_; intro w9 k9 g9; have K9 := hide k9; have G9 := hide g9; clear k9 g9))
      refine bodyPost_ret (results_cellB (vs := [.slice (some ⟨g1, 0, none⟩) ts.length p1, .slice (some ⟨g2, 0, none⟩) cs.length p2, .slice (some ⟨g3, 0, none⟩) ds.length p3, .int .i64 nh, .int .i64 nc, .int .i64 nd]) rfl Tryz.isAgg37 Tryz.sizeOf37 rfl (unhide K9) rfl) rfl ⟨_, rfl, ⟨_, _, _, _, _, _, _, _, _, _, _, _, rfl, fun h => by cases h⟩, mdG_of ((unhide B6).grown (unhide G9) (unhide B6).size (fun q hq => by have e : w.heap.size + 1 + 1 = q := Option.some.inj hq; omega)) hsz⟩

end Go.Proofs.YticdccdkjepifaaGreat
