/-
  What the model does with a deed: a defect found. The fleet is so, it lies in memory of its own, its texts can be there.
-/
import Derived.Test.YticdccdkjepifaaGreatMdMend
namespace Go.Proofs.YticdccdkjepifaaGreat
open Go Go.RowKit

structure MfR (w : World) (g1 : Nat) (p1 : Nat) (g2 : Nat) (p2 : Nat) (g3 : Nat) (p3 : Nat) (ts : List Ts) (cs : List Cr) (ds : List Df) (nh : Int) (nc : Int) (nd : Int) (n : ByteArray) (i : Int) (m : Int) (k : Nat) (M : Nat) (A : Option Addr) (N : Nat) (C : Nat) (t0 t1 t2 t3 t4 t5 t6 t7 t8 t9 t10 t11 t12 t13 t14 : Bool) (v0 v1 v2 v3 v4 v5 v6 v7 v8 v9 v10 v11 v12 v13 v14 : Value) (W : World) : Prop where
  bel : Below w.heap.size w W
  kf : Blk W (w.heap.size) [.slice (some ⟨g1, 0, none⟩) ts.length p1, .slice (some ⟨g2, 0, none⟩) cs.length p2, .slice (some ⟨g3, 0, none⟩) ds.length p3, .int .i64 nh, .int .i64 nc, .int .i64 nd]
  kd : Blk W (w.heap.size + 1) [.int .i64 3, .string n, .int .i64 i, .int .i64 m]
  kr : Blk W (w.heap.size + 1 + 1) [.slice none 0 0, .slice none 0 0, .slice none 0 0, .int .i64 0, .int .i64 0, .int .i64 0]
  e0 : t0 = true → v0 = .pointer (some ⟨w.heap.size + 1, 1, none⟩)
  e1 : t1 = true → v1 = .string n
  e2 : t2 = true → v2 = .pointer (some ⟨w.heap.size + 1, 2, none⟩)
  e3 : t3 = true → v3 = .int .i64 i
  e4 : t4 = true → v4 = .pointer (some ⟨w.heap.size, 3, none⟩)
  e5 : t5 = true → v5 = .pointer (some ⟨w.heap.size, 5, none⟩)
  e6 : t6 = true → v6 = .int .i64 nd
  e7 : t7 = true → v7 = .agg #[.string n, .int .i64 i, .int .i64 nd]
  e9 : t9 = true → v9 = .pointer (some ⟨w.heap.size, 2, none⟩)
  e10 : t10 = true → v10 = .slice (some ⟨g3, 0, none⟩) ds.length p3
  e11 : t11 = true → v11 = .int .i64 (k : Int)
  e12 : t12 = true → v12 = .slice A N C
  a8 : t8 = true → t13 = false → ∃ vb, v8 = .slice (some ⟨vb, 0, none⟩) 1 1 ∧ OwnE 3 dfC W (w.heap.size + 3) 94 (.slice (some ⟨vb, 0, none⟩) 1 1) [(⟨n, i, nd⟩ : Df)]
  a13 : t13 = true → ∃ g c, v13 = .slice (some ⟨g, 0, none⟩) M c ∧ (t14 = true → v14 = .slice (some ⟨g, 0, none⟩) M c) ∧ OwnE 3 dfC W (w.heap.size + 3) 94 (.slice (some ⟨g, 0, none⟩) M c) ((⟨n, i, nd⟩ : Df) :: ds.drop k)
  c13_8 : t13 = true → t8 = true
  c14_13 : t14 = true → t13 = true
def MfRJ (w : World) (g1 : Nat) (p1 : Nat) (g2 : Nat) (p2 : Nat) (g3 : Nat) (p3 : Nat) (ts : List Ts) (cs : List Cr) (ds : List Df) (nh : Int) (nc : Int) (nd : Int) (n : ByteArray) (i : Int) (m : Int) (k : Nat) (M : Nat) (A : Option Addr) (N : Nat) (C : Nat) (A0 : Act) (l : Nat → Bool) (a : Act) (V : World) : Prop := ∃ (v0 v1 v2 v3 v4 v5 v6 v7 v8 v9 v10 v11 v12 v13 v14 : Value), a = (((((((((((((((A0.put (some 173) v0).put (some 174) v1).put (some 175) v2).put (some 176) v3).put (some 177) v4).put (some 178) v5).put (some 179) v6).put (some 180) v7).put (some 181) v8).put (some 182) v9).put (some 183) v10).put (some 184) v11).put (some 185) v12).put (some 186) v13).put (some 11) v14) ∧ MfR w g1 p1 g2 p2 g3 p3 ts cs ds nh nc nd n i m k M A N C (l 0) (l 1) (l 2) (l 3) (l 4) (l 5) (l 6) (l 7) (l 8) (l 9) (l 10) (l 11) (l 12) (l 13) (l 14) v0 v1 v2 v3 v4 v5 v6 v7 v8 v9 v10 v11 v12 v13 v14 V
theorem MfRJ.mk {w : World} {g1 : Nat} {p1 : Nat} {g2 : Nat} {p2 : Nat} {g3 : Nat} {p3 : Nat} {ts : List Ts} {cs : List Cr} {ds : List Df} {nh : Int} {nc : Int} {nd : Int} {n : ByteArray} {i : Int} {m : Int} {k : Nat} {M : Nat} {A : Option Addr} {N : Nat} {C : Nat} {A0 : Act} {l : Nat → Bool} {a : Act} {V : World} {v0 v1 v2 v3 v4 v5 v6 v7 v8 v9 v10 v11 v12 v13 v14 : Value} (K : MfR w g1 p1 g2 p2 g3 p3 ts cs ds nh nc nd n i m k M A N C (l 0) (l 1) (l 2) (l 3) (l 4) (l 5) (l 6) (l 7) (l 8) (l 9) (l 10) (l 11) (l 12) (l 13) (l 14) v0 v1 v2 v3 v4 v5 v6 v7 v8 v9 v10 v11 v12 v13 v14 V) (hq : a = (((((((((((((((A0.put (some 173) v0).put (some 174) v1).put (some 175) v2).put (some 176) v3).put (some 177) v4).put (some 178) v5).put (some 179) v6).put (some 180) v7).put (some 181) v8).put (some 182) v9).put (some 183) v10).put (some 184) v11).put (some 185) v12).put (some 186) v13).put (some 11) v14)) : MfRJ w g1 p1 g2 p2 g3 p3 ts cs ds nh nc nd n i m k M A N C A0 l a V := ⟨v0, v1, v2, v3, v4, v5, v6, v7, v8, v9, v10, v11, v12, v13, v14, hq, K⟩
theorem ownD_one {V : World} {b : Nat} {n : ByteArray} {i nd : Int} (h : b ≤ V.heap.size) : OwnE 3 dfC (V.alloc (Obj.cells #[.string n, .int .i64 i, .int .i64 nd] 94)) b 94 (.slice (some ⟨V.heap.size, 0, none⟩) 1 1) [(⟨n, i, nd⟩ : Df)] := by
  refine ⟨⟨[.string n, .int .i64 i, .int .i64 nd], ⟨by simp, .inr ⟨_, _, #[.string n, .int .i64 i, .int .i64 nd], rfl, h, ?_, Nat.le_refl _, by simp [maxLen], by simp, by simp⟩⟩, fun j hj => ?_⟩⟩
  · show (V.heap.push _)[V.heap.size]? = _; simp
  · simp at hj
    intro q hq
    subst hj
    rcases (show q = 0 ∨ q = 1 ∨ q = 2 from by omega) with rfl | rfl | rfl <;> rfl
set_option maxRecDepth 20000 in
set_option maxHeartbeats 40000000 in
theorem md_3 (base g1 p1 g2 p2 g3 p3 : Nat) (ts : List Ts) (cs : List Cr) (ds : List Df) (nh nc nd : Int) (n : ByteArray) (i m : Int) (w : World) (ho : FlOwn w base (some ⟨g1, 0, none⟩) (some ⟨g2, 0, none⟩) (some ⟨g3, 0, none⟩) ts.length p1 cs.length p2 ds.length p3 ts cs ds) (ff : FitF ⟨ts, cs, ds, nh, nc, nd⟩) (hf : flB ⟨ts, cs, ds, nh, nc, nd⟩ = true) (hn : fitT n) :
    Calls Tryz.prog 49 #[.agg #[.slice (some ⟨g1, 0, none⟩) ts.length p1, .slice (some ⟨g2, 0, none⟩) cs.length p2, .slice (some ⟨g3, 0, none⟩) ds.length p3, .int .i64 nh, .int .i64 nc, .int .i64 nd], .agg #[.int .i64 3, .string n, .int .i64 i, .int .i64 m]] w fun e w' => ∃ v, e = .returned (.tuple #[v, .bool (dwB ⟨ts, cs, ds, nh, nc, nd⟩ ⟨3, n, i, m⟩)]) ∧ MdO w' base v (dwF ⟨ts, cs, ds, nh, nc, nd⟩ ⟨3, n, i, m⟩) (dwB ⟨ts, cs, ds, nh, nc, nd⟩ ⟨3, n, i, m⟩) ∧ MdG base g1 w w' := by
  have E1 : Hid (∀ k, k < ds.length → (∀ j, j < k → (elAt ds j).i < i) → (elAt ds k).i = i → dwB ⟨ts, cs, ds, nh, nc, nd⟩ ⟨3, n, i, m⟩ = false) := hide (fun k hk hj e => by
    rw [(dw3 hf).1]
    simp [(atI_yes hk hj e).2])
  have hnd : 0 ≤ nd := by obtain ⟨f1, _, _, _⟩ := flB_facts hf; obtain ⟨_, _, n3⟩ := ckB_facts f1; simp only at n3; omega
  have E2 : Hid (∀ k, k ≤ ds.length → (∀ j, j < k → (elAt ds j).i < i) → (k = ds.length ∨ i < (elAt ds k).i) → dwB ⟨ts, cs, ds, nh, nc, nd⟩ ⟨3, n, i, m⟩ = (nameB n && inB i 1 1000000 && decide (ds.length < 20)) ∧ ((nameB n && inB i 1 1000000 && decide (ds.length < 20)) = true → dwF ⟨ts, cs, ds, nh, nc, nd⟩ ⟨3, n, i, m⟩ = ⟨ts, cs, ds.take k ++ (⟨n, i, nd⟩ :: ds.drop k), nh, nc, nd⟩)) := hide (fun k hk hj e => by
    obtain ⟨a1, a2⟩ := atI_no hk hj e
    have hb : (!atI ds i && dkB nd ⟨n, i, nd⟩ && decide (ds.length < 20)) = (nameB n && inB i 1 1000000 && decide (ds.length < 20)) := by
      have h3 : inB nd 0 nd = true := by rw [inB]; exact decide_eq_true ⟨hnd, Int.le_refl _⟩
      simp [a2, dkB, h3]
    rw [(dw3 hf).1, (dw3 hf).2]
    simp only
    rw [hb]
    exact ⟨rfl, fun h => by rw [if_pos h, a1]; rfl⟩)
  obtain ⟨f', hf'⟩ : ∃ x, dwF ⟨ts, cs, ds, nh, nc, nd⟩ ⟨3, n, i, m⟩ = x := ⟨_, rfl⟩
  obtain ⟨B, hB⟩ : ∃ x, dwB ⟨ts, cs, ds, nh, nc, nd⟩ ⟨3, n, i, m⟩ = x := ⟨_, rfl⟩
  rw [hf', hB]
  simp only [hf', hB] at E1 E2
  clear hf' hB
  have hl : ds.length ≤ 20 := by obtain ⟨_, _, _, f4⟩ := flB_facts hf; obtain ⟨k2, _, _⟩ := listI_facts f4; exact k2
  have hsz : base ≤ w.heap.size := by have := ho.o1.lies g1 rfl; omega
  obtain ⟨V0, hV0⟩ : ∃ V, V = ((w.alloc (Obj.cells #[.slice (some ⟨g1, 0, none⟩) ts.length p1, .slice (some ⟨g2, 0, none⟩) cs.length p2, .slice (some ⟨g3, 0, none⟩) ds.length p3, .int .i64 nh, .int .i64 nc, .int .i64 nd] 37)).alloc (Obj.cells #[.int .i64 3, .string n, .int .i64 i, .int .i64 m] 60)).alloc (Obj.cells #[.slice none 0 0, .slice none 0 0, .slice none 0 0, .int .i64 0, .int .i64 0, .int .i64 0] 37) := ⟨_, rfl⟩
  have bV : Below w.heap.size w V0 := by rw [hV0]; exact bel3 _ _ _
  have KF0 : Hid (Blk V0 (w.heap.size) [.slice (some ⟨g1, 0, none⟩) ts.length p1, .slice (some ⟨g2, 0, none⟩) cs.length p2, .slice (some ⟨g3, 0, none⟩) ds.length p3, .int .i64 nh, .int .i64 nc, .int .i64 nd]) := hide (by rw [hV0]; exact blkAt3_0)
  have KD0 : Hid (Blk V0 (w.heap.size + 1) [.int .i64 3, .string n, .int .i64 i, .int .i64 m]) := hide (by rw [hV0]; exact blkAt3_1)
  have KR0 : Hid (Blk V0 (w.heap.size + 1 + 1) [.slice none 0 0, .slice none 0 0, .slice none 0 0, .int .i64 0, .int .i64 0, .int .i64 0]) := hide (by rw [hV0]; exact blkAt3_2)
  have B0 := hide bV
  have HO := hide ho
  have HW := hide hV0
  have FF := hide ff
  have y0 : V0.cell? ⟨w.heap.size + 1, 0, none⟩ = some (.int .i64 3) := (unhide KD0).c 0 (by simp)
  have y1 : V0.cell? ⟨w.heap.size + 1, 1, none⟩ = some (.string n) := (unhide KD0).c 1 (by simp)
  have y2 : V0.cell? ⟨w.heap.size + 1, 2, none⟩ = some (.int .i64 i) := (unhide KD0).c 2 (by simp)
  have y3 : V0.cell? ⟨w.heap.size + 1, 3, none⟩ = some (.int .i64 m) := (unhide KD0).c 3 (by simp)
  have q0 : V0.cell? ⟨w.heap.size, 0, none⟩ = some (.slice (some ⟨g1, 0, none⟩) ts.length p1) := (unhide KF0).c 0 (by simp)
  have q1 : V0.cell? ⟨w.heap.size, 1, none⟩ = some (.slice (some ⟨g2, 0, none⟩) cs.length p2) := (unhide KF0).c 1 (by simp)
  have q2 : V0.cell? ⟨w.heap.size, 2, none⟩ = some (.slice (some ⟨g3, 0, none⟩) ds.length p3) := (unhide KF0).c 2 (by simp)
  have q3 : V0.cell? ⟨w.heap.size, 3, none⟩ = some (.int .i64 nh) := (unhide KF0).c 3 (by simp)
  have q4 : V0.cell? ⟨w.heap.size, 4, none⟩ = some (.int .i64 nc) := (unhide KF0).c 4 (by simp)
  have q5 : V0.cell? ⟨w.heap.size, 5, none⟩ = some (.int .i64 nd) := (unhide KF0).c 5 (by simp)
  clear hV0 ff
  go_enter Tryz.func49, Tryz.ntmps49
  go_upto_region 1 with fail
  rw [← unhide HW]
  clear HW
  clear y0 y1 y2 y3 q0 q1 q2 q3 q4 q5
  have y0 : V0.cell? ⟨w.heap.size + 1, 0, none⟩ = some (.int .i64 3) := (unhide KD0).c 0 (by simp)
  go_wp2_with fail
  go_loopw [9] (fun u wr => ∃ k : Nat, u = .int .i64 k ∧ k ≤ ds.length ∧ Hid (Blk wr (w.heap.size) [.slice (some ⟨g1, 0, none⟩) ts.length p1, .slice (some ⟨g2, 0, none⟩) cs.length p2, .slice (some ⟨g3, 0, none⟩) ds.length p3, .int .i64 nh, .int .i64 nc, .int .i64 nd]) ∧ Hid (Blk wr (w.heap.size + 1) [.int .i64 3, .string n, .int .i64 i, .int .i64 m]) ∧ Hid (Blk wr (w.heap.size + 1 + 1) [.slice none 0 0, .slice none 0 0, .slice none 0 0, .int .i64 0, .int .i64 0, .int .i64 0]) ∧ Hid (Below w.heap.size w wr) ∧ Hid (∀ j, j < k → (elAt ds j).i < i)) (fun u _ => ds.length - (intOf u).toNat)
  case atStart => exact ⟨0, rfl, Nat.zero_le _, KF0, KD0, KR0, B0, hide (fun j hj => by omega)⟩
  case round =>
    obtain ⟨k, rfl, hk, KF4, KD4, KR4, B4, AL⟩ := hrel
    by_cases hlt : k < ds.length
    · have hi1 : (k : Int) < (ds.length : Int) := by omega
      have hi0 : (0 : Int) ≤ (k : Int) := by omega
      obtain ⟨X, hX⟩ : ∃ x, (elAt ds k).i = x := ⟨_, rfl⟩
      have HX := hide hX
      clear hX
      go_wp2_with fail
      obtain ⟨ιfW, fW, _, hb, hall⟩ := belClass wr
      have HB := hide hb
      have HA := hide hall
      have d2 : ∀ z, (fW z).cell? ⟨w.heap.size, 2, none⟩ = some (.slice (some ⟨g3, 0, none⟩) ds.length p3) := fun z => ((unhide KF4).below (hb z)).c 2 (by simp)
      have d5 : ∀ z, (fW z).cell? ⟨w.heap.size + 1, 2, none⟩ = some (.int .i64 i) := fun z => ((unhide KD4).below (hb z)).c 2 (by simp)
      have dx : ∀ z, (fW z).cell? ⟨g3, k * 3 + 1, none⟩ = some (.int .i64 X) := fun z => by have e := (((unhide HO).o3.below ((unhide B4).trans ((hb z).mono (unhide B4).size))).here rfl k hlt 1 (by omega)).1; rw [show dfC (elAt ds k) 1 = .int .i64 (elAt ds k).i from rfl, unhide HX] at e; exact e
      clear hb hall
      obtain ⟨x0, h0⟩ := (unhide HA) wr (Below.refl _ _)
      rw [h0]
      clear h0
      by_cases q : X < i
      · refine wp_region_bel (fun w' h => (unhide HA) w' ((unhide HB _).trans (h.mono (unhide HB _).size))) (by kernel_rfl) (by kernel_rfl) ?_
        (repeat (go_big_quiet_step (fail)))
        refine wpQuiet_nil ?_
        rintro _ ⟨y, rfl⟩
        have KF5 := hide ((unhide KF4).below (unhide HB y))
        have KD5 := hide ((unhide KD4).below (unhide HB y))
        have KR5 := hide ((unhide KR4).below (unhide HB y))
        have B5 := hide ((unhide B4).trans ((unhide HB y).mono (unhide B4).size))
        clear KF4 KD4 KR4 B4 d2 d5 dx HA HB
        generalize fW y = w5 at *
        have NA : Hid (∀ j, j < k + 1 → (elAt ds j).i < i) := hide (fun j hj => by
          by_cases e3 : j = k
          · rw [e3, unhide HX]; exact q
          · exact (unhide AL) j (by omega))
        clear AL
        go_wp2_with fail
        go_roundw
        case rel => exact ⟨k + 1, by go_num, by omega, KF5, KD5, KR5, B5, NA⟩
        case measure => simp [intOf]; omega
      by_cases q2 : X = i
      · refine wp_region_bel (fun w' h => (unhide HA) w' ((unhide HB _).trans (h.mono (unhide HB _).size))) (by kernel_rfl) (by kernel_rfl) ?_
        (repeat (go_big_quiet_step (fail)))
        refine wpQuiet_nil ?_
        rintro _ ⟨y, rfl⟩
        have KF5 := hide ((unhide KF4).below (unhide HB y))
        have KD5 := hide ((unhide KD4).below (unhide HB y))
        have KR5 := hide ((unhide KR4).below (unhide HB y))
        have B5 := hide ((unhide B4).trans ((unhide HB y).mono (unhide B4).size))
        clear KF4 KD4 KR4 B4 d2 d5 dx HA HB
        generalize fW y = w5 at *
        go_wp2_with fail
        obtain ⟨ιfV, fV, _, hb, hall⟩ := belClass w5
        have HB := hide hb
        have HA := hide hall
        have d2 : ∀ z, (fV z).cell? ⟨w.heap.size, 2, none⟩ = some (.slice (some ⟨g3, 0, none⟩) ds.length p3) := fun z => ((unhide KF5).below (hb z)).c 2 (by simp)
        have d5 : ∀ z, (fV z).cell? ⟨w.heap.size + 1, 2, none⟩ = some (.int .i64 i) := fun z => ((unhide KD5).below (hb z)).c 2 (by simp)
        have dx : ∀ z, (fV z).cell? ⟨g3, k * 3 + 1, none⟩ = some (.int .i64 X) := fun z => by have e := (((unhide HO).o3.below ((unhide B5).trans ((hb z).mono (unhide B5).size))).here rfl k hlt 1 (by omega)).1; rw [show dfC (elAt ds k) 1 = .int .i64 (elAt ds k).i from rfl, unhide HX] at e; exact e
        clear hb hall
        obtain ⟨x0, h0⟩ := (unhide HA) w5 (Below.refl _ _)
        rw [h0]
        clear h0
        have e2 : decide (X = i) = true := by simpa using q2
        refine wp_region_bel (fun w' h => (unhide HA) w' ((unhide HB _).trans (h.mono (unhide HB _).size))) (by kernel_rfl) (by kernel_rfl) ?_
        (repeat (go_big_quiet_step (fail)))
        refine wpQuiet_nil ?_
        rintro _ ⟨y, rfl⟩
        have KF6 := hide ((unhide KF5).below (unhide HB y))
        have KD6 := hide ((unhide KD5).below (unhide HB y))
        have KR6 := hide ((unhide KR5).below (unhide HB y))
        have B6 := hide ((unhide B5).trans ((unhide HB y).mono (unhide B5).size))
        clear KF5 KD5 KR5 B5 d2 d5 dx HA HB
        generalize fV y = w6 at *
        have eB := (unhide E1) k hlt (unhide AL) ((unhide HX).trans q2)
        subst eB
        clear E1 E2 AL
        have q0 : w6.cell? ⟨w.heap.size, 0, none⟩ = some (.slice (some ⟨g1, 0, none⟩) ts.length p1) := (unhide KF6).c 0 (by simp)
        have q1 : w6.cell? ⟨w.heap.size, 1, none⟩ = some (.slice (some ⟨g2, 0, none⟩) cs.length p2) := (unhide KF6).c 1 (by simp)
        have q2 : w6.cell? ⟨w.heap.size, 2, none⟩ = some (.slice (some ⟨g3, 0, none⟩) ds.length p3) := (unhide KF6).c 2 (by simp)
        have q3 : w6.cell? ⟨w.heap.size, 3, none⟩ = some (.int .i64 nh) := (unhide KF6).c 3 (by simp)
        have q4 : w6.cell? ⟨w.heap.size, 4, none⟩ = some (.int .i64 nc) := (unhide KF6).c 4 (by simp)
        have q5 : w6.cell? ⟨w.heap.size, 5, none⟩ = some (.int .i64 nd) := (unhide KF6).c 5 (by simp)
        have y0 : w6.cell? ⟨w.heap.size + 1, 0, none⟩ = some (.int .i64 3) := (unhide KD6).c 0 (by simp)
        have y1 : w6.cell? ⟨w.heap.size + 1, 1, none⟩ = some (.string n) := (unhide KD6).c 1 (by simp)
        have y2 : w6.cell? ⟨w.heap.size + 1, 2, none⟩ = some (.int .i64 i) := (unhide KD6).c 2 (by simp)
        have y3 : w6.cell? ⟨w.heap.size + 1, 3, none⟩ = some (.int .i64 m) := (unhide KD6).c 3 (by simp)
        go_wp2_with (((with_reducible show wpList _ _ _ (⟨none, .store 37 _ _, _, _, _, none⟩ :: _) _ _); refine at_storeAgg (us := [.slice none 0 0, .slice none 0 0, .slice none 0 0, .int .i64 0, .int .i64 0, .int .i64 0]) (vs := [.slice (some ⟨g1, 0, none⟩) ts.length p1, .slice (some ⟨g2, 0, none⟩) cs.length p2, .slice (some ⟨g3, 0, none⟩) ds.length p3, .int .i64 nh, .int .i64 nc, .int .i64 nd]) Tryz.sizeOf37 rfl rfl (unhide KR6) rfl (fun v hv => by simp at hv; rcases hv with rfl | rfl | rfl | rfl | rfl | rfl <;> rfl) ?_; intro w9 k9 g9; have K9 := hide k9; have G9 := hide g9; clear k9 g9))
        refine bodyPost_ret (results_cellB (vs := [.slice (some ⟨g1, 0, none⟩) ts.length p1, .slice (some ⟨g2, 0, none⟩) cs.length p2, .slice (some ⟨g3, 0, none⟩) ds.length p3, .int .i64 nh, .int .i64 nc, .int .i64 nd]) rfl Tryz.isAgg37 Tryz.sizeOf37 rfl (unhide K9) rfl) rfl ⟨_, rfl, ⟨_, _, _, _, _, _, _, _, _, _, _, _, rfl, fun h => by cases h⟩, mdG_of ((unhide B6).grown (unhide G9) (unhide B6).size (fun q hq => by have e : w.heap.size + 1 + 1 = q := Option.some.inj hq; omega)) hsz⟩
      · refine wp_region_bel (fun w' h => (unhide HA) w' ((unhide HB _).trans (h.mono (unhide HB _).size))) (by kernel_rfl) (by kernel_rfl) ?_
        (repeat (go_big_quiet_step (fail)))
        refine wpQuiet_nil ?_
        rintro _ ⟨y, rfl⟩
        have KF5 := hide ((unhide KF4).below (unhide HB y))
        have KD5 := hide ((unhide KD4).below (unhide HB y))
        have KR5 := hide ((unhide KR4).below (unhide HB y))
        have B5 := hide ((unhide B4).trans ((unhide HB y).mono (unhide B4).size))
        clear KF4 KD4 KR4 B4 d2 d5 dx HA HB
        generalize fW y = w5 at *
        go_wp2_with fail
        obtain ⟨ιfV, fV, _, hb, hall⟩ := belClass w5
        have HB := hide hb
        have HA := hide hall
        have d2 : ∀ z, (fV z).cell? ⟨w.heap.size, 2, none⟩ = some (.slice (some ⟨g3, 0, none⟩) ds.length p3) := fun z => ((unhide KF5).below (hb z)).c 2 (by simp)
        have d5 : ∀ z, (fV z).cell? ⟨w.heap.size + 1, 2, none⟩ = some (.int .i64 i) := fun z => ((unhide KD5).below (hb z)).c 2 (by simp)
        have dx : ∀ z, (fV z).cell? ⟨g3, k * 3 + 1, none⟩ = some (.int .i64 X) := fun z => by have e := (((unhide HO).o3.below ((unhide B5).trans ((hb z).mono (unhide B5).size))).here rfl k hlt 1 (by omega)).1; rw [show dfC (elAt ds k) 1 = .int .i64 (elAt ds k).i from rfl, unhide HX] at e; exact e
        clear hb hall
        obtain ⟨x0, h0⟩ := (unhide HA) w5 (Below.refl _ _)
        rw [h0]
        clear h0
        have e2 : decide (X = i) = false := by simpa using q2
        refine wp_region_bel (fun w' h => (unhide HA) w' ((unhide HB _).trans (h.mono (unhide HB _).size))) (by kernel_rfl) (by kernel_rfl) ?_
        (repeat (go_big_quiet_step (fail)))
        refine wpQuiet_nil ?_
        rintro _ ⟨y, rfl⟩
        have KF6 := hide ((unhide KF5).below (unhide HB y))
        have KD6 := hide ((unhide KD5).below (unhide HB y))
        have KR6 := hide ((unhide KR5).below (unhide HB y))
        have B6 := hide ((unhide B5).trans ((unhide HB y).mono (unhide B5).size))
        clear KF5 KD5 KR5 B5 d2 d5 dx HA HB
        generalize fV y = w6 at *
        obtain ⟨eB, eF⟩ := (unhide E2) k hk (unhide AL) (.inr (by rw [unhide HX]; omega))
        clear E1 E2 AL
        have q0 : w6.cell? ⟨w.heap.size, 0, none⟩ = some (.slice (some ⟨g1, 0, none⟩) ts.length p1) := (unhide KF6).c 0 (by simp)
        have q1 : w6.cell? ⟨w.heap.size, 1, none⟩ = some (.slice (some ⟨g2, 0, none⟩) cs.length p2) := (unhide KF6).c 1 (by simp)
        have q2 : w6.cell? ⟨w.heap.size, 2, none⟩ = some (.slice (some ⟨g3, 0, none⟩) ds.length p3) := (unhide KF6).c 2 (by simp)
        have q3 : w6.cell? ⟨w.heap.size, 3, none⟩ = some (.int .i64 nh) := (unhide KF6).c 3 (by simp)
        have q4 : w6.cell? ⟨w.heap.size, 4, none⟩ = some (.int .i64 nc) := (unhide KF6).c 4 (by simp)
        have q5 : w6.cell? ⟨w.heap.size, 5, none⟩ = some (.int .i64 nd) := (unhide KF6).c 5 (by simp)
        have y0 : w6.cell? ⟨w.heap.size + 1, 0, none⟩ = some (.int .i64 3) := (unhide KD6).c 0 (by simp)
        have y1 : w6.cell? ⟨w.heap.size + 1, 1, none⟩ = some (.string n) := (unhide KD6).c 1 (by simp)
        have y2 : w6.cell? ⟨w.heap.size + 1, 2, none⟩ = some (.int .i64 i) := (unhide KD6).c 2 (by simp)
        have y3 : w6.cell? ⟨w.heap.size + 1, 3, none⟩ = some (.int .i64 m) := (unhide KD6).c 3 (by simp)
        rcases three (nameB n) (inB i 1 1000000) (decide (ds.length < 20)) with ⟨r1, hv⟩ | ⟨r1, r2, hv⟩ | ⟨r1, r2, r3, hv⟩ | ⟨r1, r2, r3, hv⟩
        · rw [hv] at eB
          subst eB
          clear eF hv
          have CN : Hid (∀ W, Calls Tryz.prog 69 #[.string n] W fun e w' => e = .returned (.bool false) ∧ w' = W) := hide (fun W => by have := l1Name_any n W hn; rw [r1] at this; exact this)
          go_wp2_with fail
          refine (unhide CN _).mono ?_
          rintro e w' ⟨rfl, hw⟩
          subst w'
          go_wp2_with (((with_reducible show wpList _ _ _ (⟨none, .store 37 _ _, _, _, _, none⟩ :: _) _ _); refine at_storeAgg (us := [.slice none 0 0, .slice none 0 0, .slice none 0 0, .int .i64 0, .int .i64 0, .int .i64 0]) (vs := [.slice (some ⟨g1, 0, none⟩) ts.length p1, .slice (some ⟨g2, 0, none⟩) cs.length p2, .slice (some ⟨g3, 0, none⟩) ds.length p3, .int .i64 nh, .int .i64 nc, .int .i64 nd]) Tryz.sizeOf37 rfl rfl (unhide KR6) rfl (fun v hv => by simp at hv; rcases hv with rfl | rfl | rfl | rfl | rfl | rfl <;> rfl) ?_; intro w9 k9 g9; have K9 := hide k9; have G9 := hide g9; clear k9 g9))
          refine bodyPost_ret (results_cellB (vs := [.slice (some ⟨g1, 0, none⟩) ts.length p1, .slice (some ⟨g2, 0, none⟩) cs.length p2, .slice (some ⟨g3, 0, none⟩) ds.length p3, .int .i64 nh, .int .i64 nc, .int .i64 nd]) rfl Tryz.isAgg37 Tryz.sizeOf37 rfl (unhide K9) rfl) rfl ⟨_, rfl, ⟨_, _, _, _, _, _, _, _, _, _, _, _, rfl, fun h => by cases h⟩, mdG_of ((unhide B6).grown (unhide G9) (unhide B6).size (fun q hq => by have e : w.heap.size + 1 + 1 = q := Option.some.inj hq; omega)) hsz⟩
        · rw [hv] at eB
          subst eB
          clear eF hv
          have CN : Hid (∀ W, Calls Tryz.prog 69 #[.string n] W fun e w' => e = .returned (.bool true) ∧ w' = W) := hide (fun W => by have := l1Name_any n W hn; rw [r1] at this; exact this)
          go_wp2_with fail
          refine (unhide CN _).mono ?_
          rintro e w' ⟨rfl, hw⟩
          subst w'
          go_wp2_with fail
          refine (l1In_is _ _ _ _ r2).mono ?_
          rintro e w' ⟨rfl, hw⟩
          subst w'
          go_wp2_with (((with_reducible show wpList _ _ _ (⟨none, .store 37 _ _, _, _, _, none⟩ :: _) _ _); refine at_storeAgg (us := [.slice none 0 0, .slice none 0 0, .slice none 0 0, .int .i64 0, .int .i64 0, .int .i64 0]) (vs := [.slice (some ⟨g1, 0, none⟩) ts.length p1, .slice (some ⟨g2, 0, none⟩) cs.length p2, .slice (some ⟨g3, 0, none⟩) ds.length p3, .int .i64 nh, .int .i64 nc, .int .i64 nd]) Tryz.sizeOf37 rfl rfl (unhide KR6) rfl (fun v hv => by simp at hv; rcases hv with rfl | rfl | rfl | rfl | rfl | rfl <;> rfl) ?_; intro w9 k9 g9; have K9 := hide k9; have G9 := hide g9; clear k9 g9))
          refine bodyPost_ret (results_cellB (vs := [.slice (some ⟨g1, 0, none⟩) ts.length p1, .slice (some ⟨g2, 0, none⟩) cs.length p2, .slice (some ⟨g3, 0, none⟩) ds.length p3, .int .i64 nh, .int .i64 nc, .int .i64 nd]) rfl Tryz.isAgg37 Tryz.sizeOf37 rfl (unhide K9) rfl) rfl ⟨_, rfl, ⟨_, _, _, _, _, _, _, _, _, _, _, _, rfl, fun h => by cases h⟩, mdG_of ((unhide B6).grown (unhide G9) (unhide B6).size (fun q hq => by have e : w.heap.size + 1 + 1 = q := Option.some.inj hq; omega)) hsz⟩
        · rw [hv] at eB
          subst eB
          clear eF hv
          have r4 : ¬ (ds.length : Int) < 20 := by have := of_decide_eq_false r3; omega
          clear r3
          have CN : Hid (∀ W, Calls Tryz.prog 69 #[.string n] W fun e w' => e = .returned (.bool true) ∧ w' = W) := hide (fun W => by have := l1Name_any n W hn; rw [r1] at this; exact this)
          go_wp2_with fail
          refine (unhide CN _).mono ?_
          rintro e w' ⟨rfl, hw⟩
          subst w'
          go_wp2_with fail
          refine (l1In_is _ _ _ _ r2).mono ?_
          rintro e w' ⟨rfl, hw⟩
          subst w'
          go_wp2_with (((with_reducible show wpList _ _ _ (⟨none, .store 37 _ _, _, _, _, none⟩ :: _) _ _); refine at_storeAgg (us := [.slice none 0 0, .slice none 0 0, .slice none 0 0, .int .i64 0, .int .i64 0, .int .i64 0]) (vs := [.slice (some ⟨g1, 0, none⟩) ts.length p1, .slice (some ⟨g2, 0, none⟩) cs.length p2, .slice (some ⟨g3, 0, none⟩) ds.length p3, .int .i64 nh, .int .i64 nc, .int .i64 nd]) Tryz.sizeOf37 rfl rfl (unhide KR6) rfl (fun v hv => by simp at hv; rcases hv with rfl | rfl | rfl | rfl | rfl | rfl <;> rfl) ?_; intro w9 k9 g9; have K9 := hide k9; have G9 := hide g9; clear k9 g9))
          refine bodyPost_ret (results_cellB (vs := [.slice (some ⟨g1, 0, none⟩) ts.length p1, .slice (some ⟨g2, 0, none⟩) cs.length p2, .slice (some ⟨g3, 0, none⟩) ds.length p3, .int .i64 nh, .int .i64 nc, .int .i64 nd]) rfl Tryz.isAgg37 Tryz.sizeOf37 rfl (unhide K9) rfl) rfl ⟨_, rfl, ⟨_, _, _, _, _, _, _, _, _, _, _, _, rfl, fun h => by cases h⟩, mdG_of ((unhide B6).grown (unhide G9) (unhide B6).size (fun q hq => by have e : w.heap.size + 1 + 1 = q := Option.some.inj hq; omega)) hsz⟩
        · rw [hv] at eB eF
          subst eB
          have EF := hide (eF rfl)
          clear eF hv
          have r4 : (ds.length : Int) < 20 := by have := of_decide_eq_true r3; omega
          clear r3
          try (have e9 : (X == i) = false := by have h9 := of_decide_eq_false e2; simpa using h9)
          have CN : Hid (∀ W, Calls Tryz.prog 69 #[.string n] W fun e w' => e = .returned (.bool true) ∧ w' = W) := hide (fun W => by have := l1Name_any n W hn; rw [r1] at this; exact this)
          go_wp2_with fail
          refine (unhide CN _).mono ?_
          rintro e w' ⟨rfl, hw⟩
          subst w'
          go_wp2_with fail
          refine (l1In_is _ _ _ _ r2).mono ?_
          rintro e w' ⟨rfl, hw⟩
          subst w'
          have hcp : ds.length ≤ p3 := by obtain ⟨a, c, e, h, _⟩ := (unhide HO).o3.slice; simp only [Value.slice.injEq] at e; omega
          have RT : Hid (∀ V, Below w.heap.size w V → RowE 3 dfC V (some ⟨g3, 0, none⟩) k (ds.take k)) := hide (fun V b => ((unhide HO).o3.below b).row.takeN (by omega))
          have HL5 : Hid ((ds.take k).length = k) := hide (by simp; omega)
          obtain ⟨M, hM⟩ : ∃ x, (([(⟨n, i, nd⟩ : Df)] : List Df) ++ ds.drop k).length = x := ⟨_, rfl⟩
          obtain ⟨Q, hQ⟩ : ∃ x, (ds.take k ++ ((⟨n, i, nd⟩ : Df) :: ds.drop k)).length = x := ⟨_, rfl⟩
          have HLM : Hid (((⟨n, i, nd⟩ : Df) :: ds.drop k).length = M) := hide hM
          have HLQ := hide hQ
          have hM40 : M ≤ 40 := by rw [← hM]; simp; omega
          clear hM hQ
          go_upto_region 30 with fail
          clear y0 y1 y2 y3 q0 q1 q2 q3 q4 q5 r4
          have HS1 : Hid (k ≤ p3 ∧ (0 : Int) ≤ (k : Int) ∧ (k : Int) ≤ (p3 : Int) ∧ (k : Int) ≤ (ds.length : Int)) := hide (by omega)
          have HS3 : Hid (k ≤ ds.length ∧ k ≤ p3 ∧ (0 : Int) ≤ (k : Int) ∧ (k : Int) ≤ (ds.length : Int)) := hide (by omega)
          have HS6 : Hid ((ds.length : Int) ≤ (p3 : Int)) := hide (by omega)
          by_cases hcj : p3 = k
          · first
              | (exfalso; omega)
              | (subst hcj
                 have HS5 : Hid (ds.length - p3 = 0) := hide (by omega)
                 have RD : Hid (∀ V, Below w.heap.size w V → RowE 3 dfC V (some ⟨g3, 0, none⟩) 0 (ds.drop p3)) := hide (fun V b => by rw [List.drop_eq_nil_of_le (by omega)]; exact ⟨rfl, by omega, fun i hi => by omega⟩)
                 refine wp_region_flagsA (by kernel_rfl) (by kernel_rfl) (MfRJ w g1 p1 g2 p2 g3 p3 ts cs ds nh nc nd n i m p3 M (some ⟨g3, 0, none⟩) 0 0) ?_ ?_ ?_
                 · exact MfRJ.mk (v0 := undef) (v1 := undef) (v2 := undef) (v3 := undef) (v4 := undef) (v5 := undef) (v6 := undef) (v7 := undef) (v8 := undef) (v9 := undef) (v10 := undef) (v11 := undef) (v12 := undef) (v13 := undef) (v14 := undef) ⟨((unhide B6).trans (bel0d' 1)), ((unhide KF6).below (bel0d 1)), ((unhide KD6).below (bel0d 1)), ((unhide KR6).below (bel0d 1)), (fun h => by cases h), (fun h => by cases h), (fun h => by cases h), (fun h => by cases h), (fun h => by cases h), (fun h => by cases h), (fun h => by cases h), (fun h => by cases h), (fun h => by cases h), (fun h => by cases h), (fun h => by cases h), (fun h => by cases h), (fun h => by cases h), (fun h => by cases h), (fun h => by cases h), (fun h => by cases h)⟩ (by kernel_rfl)
                 rotate_left 1
                 · rintro l a V x o ho hl hd ⟨v0, v1, v2, v3, v4, v5, v6, v7, v8, v9, v10, v11, v12, v13, v14, rfl, K⟩
                   have hi : x < 15 := (Array.getElem?_eq_some_iff.1 ho).1
                   rcases (show x = 0 ∨ x = 1 ∨ x = 2 ∨ x = 3 ∨ x = 4 ∨ x = 5 ∨ x = 6 ∨ x = 7 ∨ x = 8 ∨ x = 9 ∨ x = 10 ∨ x = 11 ∨ x = 12 ∨ x = 13 ∨ x = 14 from by omega) with rfl | rfl | rfl | rfl | rfl | rfl | rfl | rfl | rfl | rfl | rfl | rfl | rfl | rfl | rfl
                   · simp at ho
                     subst ho
                     have HK : Hid (MfR w g1 p1 g2 p2 g3 p3 ts cs ds nh nc nd n i m p3 M (some ⟨g3, 0, none⟩) 0 0 true (l 1) (l 2) (l 3) (l 4) (l 5) (l 6) (l 7) (l 8) (l 9) (l 10) (l 11) (l 12) (l 13) (l 14) (.pointer (some ⟨w.heap.size + 1, 1, none⟩)) v1 v2 v3 v4 v5 v6 v7 v8 v9 v10 v11 v12 v13 v14 V) := hide ⟨(K.bel), (K.kf), (K.kd), (K.kr), (fun _ => rfl), (K.e1), (K.e2), (K.e3), (K.e4), (K.e5), (K.e6), (K.e7), (K.e9), (K.e10), (K.e11), (K.e12), (K.a8), (K.a13), (K.c13_8), (K.c14_13)⟩
                     clear K hd hl
                     go_wp2_with fail
                     exact ⟨rfl, MfRJ.mk (unhide HK) (by kernel_rfl)⟩
                   · simp at ho
                     subst ho
                     have d0 : l 0 = true := hd ⟨0, .data⟩ (by simp) rfl
                     have x0 := K.e0 d0
                     subst x0
                     have yy : V.cell? ⟨w.heap.size + 1, 1, none⟩ = some (.string n) := K.kd.c 1 (by simp)
                     have HK : Hid (MfR w g1 p1 g2 p2 g3 p3 ts cs ds nh nc nd n i m p3 M (some ⟨g3, 0, none⟩) 0 0 (l 0) true (l 2) (l 3) (l 4) (l 5) (l 6) (l 7) (l 8) (l 9) (l 10) (l 11) (l 12) (l 13) (l 14) (.pointer (some ⟨w.heap.size + 1, 1, none⟩)) (.string n) v2 v3 v4 v5 v6 v7 v8 v9 v10 v11 v12 v13 v14 V) := hide ⟨(K.bel), (K.kf), (K.kd), (K.kr), (K.e0), (fun _ => rfl), (K.e2), (K.e3), (K.e4), (K.e5), (K.e6), (K.e7), (K.e9), (K.e10), (K.e11), (K.e12), (K.a8), (K.a13), (K.c13_8), (K.c14_13)⟩
                     clear K hd hl
                     go_wp2_with fail
                     exact ⟨rfl, MfRJ.mk (unhide HK) (by kernel_rfl)⟩
                   · simp at ho
                     subst ho
                     have HK : Hid (MfR w g1 p1 g2 p2 g3 p3 ts cs ds nh nc nd n i m p3 M (some ⟨g3, 0, none⟩) 0 0 (l 0) (l 1) true (l 3) (l 4) (l 5) (l 6) (l 7) (l 8) (l 9) (l 10) (l 11) (l 12) (l 13) (l 14) v0 v1 (.pointer (some ⟨w.heap.size + 1, 2, none⟩)) v3 v4 v5 v6 v7 v8 v9 v10 v11 v12 v13 v14 V) := hide ⟨(K.bel), (K.kf), (K.kd), (K.kr), (K.e0), (K.e1), (fun _ => rfl), (K.e3), (K.e4), (K.e5), (K.e6), (K.e7), (K.e9), (K.e10), (K.e11), (K.e12), (K.a8), (K.a13), (K.c13_8), (K.c14_13)⟩
                     clear K hd hl
                     go_wp2_with fail
                     exact ⟨rfl, MfRJ.mk (unhide HK) (by kernel_rfl)⟩
                   · simp at ho
                     subst ho
                     have d2 : l 2 = true := hd ⟨2, .data⟩ (by simp) rfl
                     have x2 := K.e2 d2
                     subst x2
                     have yy : V.cell? ⟨w.heap.size + 1, 2, none⟩ = some (.int .i64 i) := K.kd.c 2 (by simp)
                     have HK : Hid (MfR w g1 p1 g2 p2 g3 p3 ts cs ds nh nc nd n i m p3 M (some ⟨g3, 0, none⟩) 0 0 (l 0) (l 1) (l 2) true (l 4) (l 5) (l 6) (l 7) (l 8) (l 9) (l 10) (l 11) (l 12) (l 13) (l 14) v0 v1 (.pointer (some ⟨w.heap.size + 1, 2, none⟩)) (.int .i64 i) v4 v5 v6 v7 v8 v9 v10 v11 v12 v13 v14 V) := hide ⟨(K.bel), (K.kf), (K.kd), (K.kr), (K.e0), (K.e1), (K.e2), (fun _ => rfl), (K.e4), (K.e5), (K.e6), (K.e7), (K.e9), (K.e10), (K.e11), (K.e12), (K.a8), (K.a13), (K.c13_8), (K.c14_13)⟩
                     clear K hd hl
                     go_wp2_with fail
                     exact ⟨rfl, MfRJ.mk (unhide HK) (by kernel_rfl)⟩
                   · simp at ho
                     subst ho
                     have HK : Hid (MfR w g1 p1 g2 p2 g3 p3 ts cs ds nh nc nd n i m p3 M (some ⟨g3, 0, none⟩) 0 0 (l 0) (l 1) (l 2) (l 3) true (l 5) (l 6) (l 7) (l 8) (l 9) (l 10) (l 11) (l 12) (l 13) (l 14) v0 v1 v2 v3 (.pointer (some ⟨w.heap.size, 3, none⟩)) v5 v6 v7 v8 v9 v10 v11 v12 v13 v14 V) := hide ⟨(K.bel), (K.kf), (K.kd), (K.kr), (K.e0), (K.e1), (K.e2), (K.e3), (fun _ => rfl), (K.e5), (K.e6), (K.e7), (K.e9), (K.e10), (K.e11), (K.e12), (K.a8), (K.a13), (K.c13_8), (K.c14_13)⟩
                     clear K hd hl
                     go_wp2_with fail
                     exact ⟨rfl, MfRJ.mk (unhide HK) (by kernel_rfl)⟩
                   · simp at ho
                     subst ho
                     have d4 : l 4 = true := hd ⟨4, .data⟩ (by simp) rfl
                     have x4 := K.e4 d4
                     subst x4
                     have HK : Hid (MfR w g1 p1 g2 p2 g3 p3 ts cs ds nh nc nd n i m p3 M (some ⟨g3, 0, none⟩) 0 0 (l 0) (l 1) (l 2) (l 3) (l 4) true (l 6) (l 7) (l 8) (l 9) (l 10) (l 11) (l 12) (l 13) (l 14) v0 v1 v2 v3 (.pointer (some ⟨w.heap.size, 3, none⟩)) (.pointer (some ⟨w.heap.size, 5, none⟩)) v6 v7 v8 v9 v10 v11 v12 v13 v14 V) := hide ⟨(K.bel), (K.kf), (K.kd), (K.kr), (K.e0), (K.e1), (K.e2), (K.e3), (K.e4), (fun _ => rfl), (K.e6), (K.e7), (K.e9), (K.e10), (K.e11), (K.e12), (K.a8), (K.a13), (K.c13_8), (K.c14_13)⟩
                     clear K hd hl
                     go_wp2_with fail
                     exact ⟨rfl, MfRJ.mk (unhide HK) (by kernel_rfl)⟩
                   · simp at ho
                     subst ho
                     have d5 : l 5 = true := hd ⟨5, .data⟩ (by simp) rfl
                     have x5 := K.e5 d5
                     subst x5
                     have yy : V.cell? ⟨w.heap.size, 5, none⟩ = some (.int .i64 nd) := K.kf.c 5 (by simp)
                     have HK : Hid (MfR w g1 p1 g2 p2 g3 p3 ts cs ds nh nc nd n i m p3 M (some ⟨g3, 0, none⟩) 0 0 (l 0) (l 1) (l 2) (l 3) (l 4) (l 5) true (l 7) (l 8) (l 9) (l 10) (l 11) (l 12) (l 13) (l 14) v0 v1 v2 v3 v4 (.pointer (some ⟨w.heap.size, 5, none⟩)) (.int .i64 nd) v7 v8 v9 v10 v11 v12 v13 v14 V) := hide ⟨(K.bel), (K.kf), (K.kd), (K.kr), (K.e0), (K.e1), (K.e2), (K.e3), (K.e4), (K.e5), (fun _ => rfl), (K.e7), (K.e9), (K.e10), (K.e11), (K.e12), (K.a8), (K.a13), (K.c13_8), (K.c14_13)⟩
                     clear K hd hl
                     go_wp2_with fail
                     exact ⟨rfl, MfRJ.mk (unhide HK) (by kernel_rfl)⟩
                   · simp at ho
                     subst ho
                     have d1 : l 1 = true := hd ⟨1, .data⟩ (by simp) rfl
                     have x1 := K.e1 d1
                     subst x1
                     have d3 : l 3 = true := hd ⟨3, .data⟩ (by simp) rfl
                     have x3 := K.e3 d3
                     subst x3
                     have d6 : l 6 = true := hd ⟨6, .data⟩ (by simp) rfl
                     have x6 := K.e6 d6
                     subst x6
                     have HK : Hid (MfR w g1 p1 g2 p2 g3 p3 ts cs ds nh nc nd n i m p3 M (some ⟨g3, 0, none⟩) 0 0 (l 0) (l 1) (l 2) (l 3) (l 4) (l 5) (l 6) true (l 8) (l 9) (l 10) (l 11) (l 12) (l 13) (l 14) v0 (.string n) v2 (.int .i64 i) v4 v5 (.int .i64 nd) (.agg #[.string n, .int .i64 i, .int .i64 nd]) v8 v9 v10 v11 v12 v13 v14 V) := hide ⟨(K.bel), (K.kf), (K.kd), (K.kr), (K.e0), (K.e1), (K.e2), (K.e3), (K.e4), (K.e5), (K.e6), (fun _ => rfl), (K.e9), (K.e10), (K.e11), (K.e12), (K.a8), (K.a13), (K.c13_8), (K.c14_13)⟩
                     clear K hd hl
                     go_wp2_with fail
                     exact ⟨rfl, MfRJ.mk (unhide HK) (by kernel_rfl)⟩
                   · simp at ho
                     subst ho
                     have d7 : l 7 = true := hd ⟨7, .data⟩ (by simp) rfl
                     have x7 := K.e7 d7
                     subst x7
                     have n13 : l 13 = false := by cases c : l 13; rfl; have z := K.c13_8 c; rw [hl] at z; cases z
                     have s9 := K.kr.lt
                     have HK : Hid (MfR w g1 p1 g2 p2 g3 p3 ts cs ds nh nc nd n i m p3 M (some ⟨g3, 0, none⟩) 0 0 (l 0) (l 1) (l 2) (l 3) (l 4) (l 5) (l 6) (l 7) true (l 9) (l 10) (l 11) (l 12) (l 13) (l 14) v0 v1 v2 v3 v4 v5 v6 (.agg #[.string n, .int .i64 i, .int .i64 nd]) (.slice (some ⟨V.heap.size, 0, none⟩) 1 1) v9 v10 v11 v12 v13 v14 (V.alloc (Obj.cells #[.string n, .int .i64 i, .int .i64 nd] 94))) := hide ⟨(K.bel.alloc K.bel.size _), (K.kf.alloc _), (K.kd.alloc _), (K.kr.alloc _), (K.e0), (K.e1), (K.e2), (K.e3), (K.e4), (K.e5), (K.e6), (K.e7), (K.e9), (K.e10), (K.e11), (K.e12), (fun _ _ => ⟨_, rfl, ownD_one (show w.heap.size + 3 ≤ V.heap.size from by omega)⟩), (fun h => by have h : l 13 = true := h; rw [n13] at h; cases h), (fun _ => rfl), (K.c14_13)⟩
                     clear K hd hl n13 s9
                     go_wp2_with fail
                     exact ⟨rfl, MfRJ.mk (unhide HK) (by kernel_rfl)⟩
                   · simp at ho
                     subst ho
                     have HK : Hid (MfR w g1 p1 g2 p2 g3 p3 ts cs ds nh nc nd n i m p3 M (some ⟨g3, 0, none⟩) 0 0 (l 0) (l 1) (l 2) (l 3) (l 4) (l 5) (l 6) (l 7) (l 8) true (l 10) (l 11) (l 12) (l 13) (l 14) v0 v1 v2 v3 v4 v5 v6 v7 v8 (.pointer (some ⟨w.heap.size, 2, none⟩)) v10 v11 v12 v13 v14 V) := hide ⟨(K.bel), (K.kf), (K.kd), (K.kr), (K.e0), (K.e1), (K.e2), (K.e3), (K.e4), (K.e5), (K.e6), (K.e7), (fun _ => rfl), (K.e10), (K.e11), (K.e12), (K.a8), (K.a13), (K.c13_8), (K.c14_13)⟩
                     clear K hd hl
                     go_wp2_with fail
                     exact ⟨rfl, MfRJ.mk (unhide HK) (by kernel_rfl)⟩
                   · simp at ho
                     subst ho
                     have d9 : l 9 = true := hd ⟨9, .data⟩ (by simp) rfl
                     have x9 := K.e9 d9
                     subst x9
                     have yy : V.cell? ⟨w.heap.size, 2, none⟩ = some (.slice (some ⟨g3, 0, none⟩) ds.length p3) := K.kf.c 2 (by simp)
                     have HK : Hid (MfR w g1 p1 g2 p2 g3 p3 ts cs ds nh nc nd n i m p3 M (some ⟨g3, 0, none⟩) 0 0 (l 0) (l 1) (l 2) (l 3) (l 4) (l 5) (l 6) (l 7) (l 8) (l 9) true (l 11) (l 12) (l 13) (l 14) v0 v1 v2 v3 v4 v5 v6 v7 v8 (.pointer (some ⟨w.heap.size, 2, none⟩)) (.slice (some ⟨g3, 0, none⟩) ds.length p3) v11 v12 v13 v14 V) := hide ⟨(K.bel), (K.kf), (K.kd), (K.kr), (K.e0), (K.e1), (K.e2), (K.e3), (K.e4), (K.e5), (K.e6), (K.e7), (K.e9), (fun _ => rfl), (K.e11), (K.e12), (K.a8), (K.a13), (K.c13_8), (K.c14_13)⟩
                     clear K hd hl
                     go_wp2_with fail
                     exact ⟨rfl, MfRJ.mk (unhide HK) (by kernel_rfl)⟩
                   · simp at ho
                     subst ho
                     have HK : Hid (MfR w g1 p1 g2 p2 g3 p3 ts cs ds nh nc nd n i m p3 M (some ⟨g3, 0, none⟩) 0 0 (l 0) (l 1) (l 2) (l 3) (l 4) (l 5) (l 6) (l 7) (l 8) (l 9) (l 10) true (l 12) (l 13) (l 14) v0 v1 v2 v3 v4 v5 v6 v7 v8 v9 v10 (.int .i64 (p3 : Int)) v12 v13 v14 V) := hide ⟨(K.bel), (K.kf), (K.kd), (K.kr), (K.e0), (K.e1), (K.e2), (K.e3), (K.e4), (K.e5), (K.e6), (K.e7), (K.e9), (K.e10), (fun _ => rfl), (K.e12), (K.a8), (K.a13), (K.c13_8), (K.c14_13)⟩
                     clear K hd hl
                     go_wp2_with fail
                     exact ⟨rfl, MfRJ.mk (unhide HK) (by kernel_rfl)⟩
                   · simp at ho
                     subst ho
                     have d10 : l 10 = true := hd ⟨10, .data⟩ (by simp) rfl
                     have x10 := K.e10 d10
                     subst x10
                     have d11 : l 11 = true := hd ⟨11, .data⟩ (by simp) rfl
                     have x11 := K.e11 d11
                     subst x11
                     obtain ⟨f1, f2, f2b, f2c⟩ := unhide HS1
                     obtain ⟨f3, f3b, f4, f4b⟩ := unhide HS3
                     have f5 := unhide HS5
                     have f6 := unhide HS6
                     have HK : Hid (MfR w g1 p1 g2 p2 g3 p3 ts cs ds nh nc nd n i m p3 M (some ⟨g3, 0, none⟩) 0 0 (l 0) (l 1) (l 2) (l 3) (l 4) (l 5) (l 6) (l 7) (l 8) (l 9) (l 10) (l 11) true (l 13) (l 14) v0 v1 v2 v3 v4 v5 v6 v7 v8 v9 (.slice (some ⟨g3, 0, none⟩) ds.length p3) (.int .i64 (p3 : Int)) (.slice (some ⟨g3, 0, none⟩) 0 0) v13 v14 V) := hide ⟨(K.bel), (K.kf), (K.kd), (K.kr), (K.e0), (K.e1), (K.e2), (K.e3), (K.e4), (K.e5), (K.e6), (K.e7), (K.e9), (K.e10), (K.e11), (fun _ => rfl), (K.a8), (K.a13), (K.c13_8), (K.c14_13)⟩
                     clear K hd hl
                     go_wp2_with fail
                     (try simp only [Nat.zero_add])
                     exact ⟨rfl, MfRJ.mk (unhide HK) (by kernel_rfl)⟩
                   · simp at ho
                     subst ho
                     have d8 : l 8 = true := hd ⟨8, .data⟩ (by simp) rfl
                     have d12 : l 12 = true := hd ⟨12, .data⟩ (by simp) rfl
                     have x12 := K.e12 d12
                     subst x12
                     obtain ⟨vb, xb, ob⟩ := K.a8 d8 hl
                     subst xb
                     have n14 : l 14 = false := by cases c : l 14; rfl; have z := K.c14_13 c; rw [hl] at z; cases z
                     have RS := hide ((unhide RD) V K.bel)
                     have OB := hide ob
                     have lb := (ob.lies vb rfl)
                     have s9 := K.kr.lt
                     have SZ : Hid (w.heap.size + 3 ≤ V.heap.size) := hide (by omega)
                     have HK0 := hide K
                     clear K hd ob
                     go_wp2_with (at_builtin; go_loud (refine wpList_app_elsM (K := 3) (cells := dfC) (by kernel_rfl) _ _ 34 94 rfl Tryz.underlying34 infoDf rfl (by decide) (by decide) dfCell1' (unhide OB) (by kernel_rfl) (some ⟨g3, 0, none⟩) 0 0 (ds.drop p3) (by kernel_rfl) (unhide RS) (by simp <;> omega) (unhide SZ) ?_; intro v9 w9 o9 gr9 nn9; have o9 : OwnE 3 dfC w9 (w.heap.size + 3) 94 (v9) ((⟨n, i, nd⟩ : Df) :: ds.drop p3) := o9; obtain ⟨g, c, rfl, hbg, hlg⟩ := fc_shape o9 nn9 (by simp); rw [unhide HLM] at o9; rw [unhide HLM]; have HK : Hid (MfR w g1 p1 g2 p2 g3 p3 ts cs ds nh nc nd n i m p3 M (some ⟨g3, 0, none⟩) 0 0 (l 0) (l 1) (l 2) (l 3) (l 4) (l 5) (l 6) (l 7) (l 8) (l 9) (l 10) (l 11) (l 12) true (l 14) v0 v1 v2 v3 v4 v5 v6 v7 (.slice (some ⟨vb, 0, none⟩) 1 1) v9 v10 v11 (.slice (some ⟨g3, 0, none⟩) 0 0) (.slice (some ⟨g, 0, none⟩) M c) v14 w9) := hide ⟨((unhide HK0).bel.grown gr9 (unhide HK0).bel.size (fun q hq => by have e : vb = q := Option.some.inj hq; omega)), ((unhide HK0).kf.apart gr9 (fun e => by have e : w.heap.size = vb := Option.some.inj e; omega)), ((unhide HK0).kd.apart gr9 (fun e => by have e : w.heap.size + 1 = vb := Option.some.inj e; omega)), ((unhide HK0).kr.apart gr9 (fun e => by have e : w.heap.size + 1 + 1 = vb := Option.some.inj e; omega)), ((unhide HK0).e0), ((unhide HK0).e1), ((unhide HK0).e2), ((unhide HK0).e3), ((unhide HK0).e4), ((unhide HK0).e5), ((unhide HK0).e6), ((unhide HK0).e7), ((unhide HK0).e9), ((unhide HK0).e10), ((unhide HK0).e11), ((unhide HK0).e12), (fun _ h => by cases h), (fun _ => ⟨g, c, rfl, (fun h => by have h : l 14 = true := h; rw [n14] at h; cases h), o9⟩), (fun _ => d8), (fun _ => rfl)⟩; clear o9 gr9 nn9 hbg hlg))
                     exact ⟨rfl, MfRJ.mk (unhide HK) (by kernel_rfl)⟩
                   · simp at ho
                     subst ho
                     have d13 : l 13 = true := hd ⟨13, .data⟩ (by simp) rfl
                     obtain ⟨g, c, xg, _, og⟩ := K.a13 d13
                     subst xg
                     have HK : Hid (MfR w g1 p1 g2 p2 g3 p3 ts cs ds nh nc nd n i m p3 M (some ⟨g3, 0, none⟩) 0 0 (l 0) (l 1) (l 2) (l 3) (l 4) (l 5) (l 6) (l 7) (l 8) (l 9) (l 10) (l 11) (l 12) (l 13) true v0 v1 v2 v3 v4 v5 v6 v7 v8 v9 v10 v11 v12 (.slice (some ⟨g, 0, none⟩) M c) (.slice (some ⟨g, 0, none⟩) M c) V) := hide ⟨(K.bel), (K.kf), (K.kd), (K.kr), (K.e0), (K.e1), (K.e2), (K.e3), (K.e4), (K.e5), (K.e6), (K.e7), (K.e9), (K.e10), (K.e11), (K.e12), (K.a8), (fun _ => ⟨g, c, rfl, fun _ => rfl, og⟩), (K.c13_8), (fun _ => d13)⟩
                     clear K hd hl og
                     go_wp2_with fail
                     exact ⟨rfl, MfRJ.mk (unhide HK) (by kernel_rfl)⟩
                 rintro l a V7 hall ⟨v0, v1, v2, v3, v4, v5, v6, v7, v8, v9, v10, v11, v12, v13, v14, rfl, K⟩
                 obtain ⟨g0, c0, xg, xh, og⟩ := K.a13 (hall 13 (by decide))
                 have xh := xh (hall 14 (by decide))
                 subst xg
                 subst xh
                 have OG := hide og
                 have KF7 := hide K.kf
                 have KR7 := hide K.kr
                 have B7 := hide K.bel
                 have lg0 := og.lies g0 rfl
                 clear K hall og
                 have s7 := (unhide KR7).lt
                 have OB : Hid (OwnE 3 dfC (V7.alloc (Obj.cells #[] 94)) (w.heap.size + 3) 94 (.slice (some ⟨V7.heap.size, 0, none⟩) 0 0) []) := hide ((ownE_none (Nat.le_refl _)).mono (show w.heap.size + 3 ≤ V7.heap.size from by omega))
                 have BA : Hid (Below w.heap.size w (V7.alloc (Obj.cells #[] 94))) := hide ((unhide B7).alloc (unhide B7).size _)
                 have RS := hide ((unhide RT) _ (unhide BA))
                 have SZ : Hid (w.heap.size + 3 ≤ (V7.alloc (Obj.cells #[] 94)).heap.size) := hide (by simp; omega)
                 go_upto_region 31 with fail
                 have q0 : (V7.alloc (Obj.cells #[] 94)).cell? ⟨w.heap.size, 0, none⟩ = some (.slice (some ⟨g1, 0, none⟩) ts.length p1) := ((unhide KF7).alloc (Obj.cells #[] 94)).c 0 (by simp)
                 have q1 : (V7.alloc (Obj.cells #[] 94)).cell? ⟨w.heap.size, 1, none⟩ = some (.slice (some ⟨g2, 0, none⟩) cs.length p2) := ((unhide KF7).alloc (Obj.cells #[] 94)).c 1 (by simp)
                 have q2 : (V7.alloc (Obj.cells #[] 94)).cell? ⟨w.heap.size, 2, none⟩ = some (.slice (some ⟨g3, 0, none⟩) ds.length p3) := ((unhide KF7).alloc (Obj.cells #[] 94)).c 2 (by simp)
                 have q3 : (V7.alloc (Obj.cells #[] 94)).cell? ⟨w.heap.size, 3, none⟩ = some (.int .i64 nh) := ((unhide KF7).alloc (Obj.cells #[] 94)).c 3 (by simp)
                 have q4 : (V7.alloc (Obj.cells #[] 94)).cell? ⟨w.heap.size, 4, none⟩ = some (.int .i64 nc) := ((unhide KF7).alloc (Obj.cells #[] 94)).c 4 (by simp)
                 have q5 : (V7.alloc (Obj.cells #[] 94)).cell? ⟨w.heap.size, 5, none⟩ = some (.int .i64 nd) := ((unhide KF7).alloc (Obj.cells #[] 94)).c 5 (by simp)
                 obtain ⟨f1, f2, f2b, f2c⟩ := unhide HS1
                 go_upto_region 32 with (at_builtin; first | ((refine wpList_app_elsM (K := 3) (cells := dfC) (by kernel_rfl) _ _ 34 94 rfl Tryz.underlying34 infoDf rfl (by decide) (by decide) dfCell1' (unhide OB) (by kernel_rfl) (some ⟨g3, 0, none⟩) p3 p3 (ds.take p3) (by kernel_rfl) (unhide RS) (by simp <;> omega) (unhide SZ) ?_; intro v8 w8 o8 gr8 nn8; rw [List.nil_append] at o8; obtain ⟨g8, c8, rfl, hbg8, hlg8⟩ := fc_shape o8 nn8 (by simp); rw [unhide HL5] at o8; rw [unhide HL5]; have B8 := hide ((unhide BA).grown gr8 (unhide BA).size (fun q hq => by have e : V7.heap.size = q := Option.some.inj hq; omega)); have OB2 := hide o8; have RS2 := hide (((unhide OG).below (bel1 _)).far gr8 (fun q hq e => by have e1 : g0 = q := Option.some.inj hq; have e2 : q = V7.heap.size := Option.some.inj e; omega)).row; have KF8 := hide (((unhide KF7).alloc (Obj.cells #[] 94)).apart gr8 (fun e => by have e : w.heap.size = V7.heap.size := Option.some.inj e; omega)); have KR8 := hide (((unhide KR7).alloc (Obj.cells #[] 94)).apart gr8 (fun e => by have e : w.heap.size + 1 + 1 = V7.heap.size := Option.some.inj e; omega)); have SZ2 : Hid (w.heap.size + 3 ≤ w8.heap.size) := hide (by have h1 := (unhide KR8).lt; omega); clear o8 gr8 nn8 hlg8)) | ((refine wpList_app_elsM (K := 3) (cells := dfC) (by kernel_rfl) _ _ 34 94 rfl Tryz.underlying34 infoDf rfl (by decide) (by decide) dfCell1' (unhide OB2) (by kernel_rfl) (some ⟨g0, 0, none⟩) M c0 ((⟨n, i, nd⟩ : Df) :: ds.drop p3) (by kernel_rfl) (unhide RS2) (by simp <;> omega) (unhide SZ2) ?_; intro v9 w9 o9 gr9 nn9; obtain ⟨g, c, rfl, hbg, hlg⟩ := fc_shape o9 nn9 (by simp); rw [unhide HLQ] at o9; rw [unhide HLQ]; have B9 := hide ((unhide B8).grown gr9 (unhide B8).size (fun q hq => by have e : g8 = q := Option.some.inj hq; omega)); have O9 := hide o9; have KF9 := hide ((unhide KF8).apart gr9 (fun e => by have e : w.heap.size = g8 := Option.some.inj e; omega)); have KR9 := hide ((unhide KR8).apart gr9 (fun e => by have e : w.heap.size + 1 + 1 = g8 := Option.some.inj e; omega)); have yy : w9.cell? ⟨w.heap.size, 2, none⟩ = some (.slice (some ⟨g3, 0, none⟩) ds.length p3) := (unhide KF9).c 2 (by simp); have ff : w9.frozen? ⟨w.heap.size, 2, none⟩ = false := (unhide KF9).f 2 (by simp); clear o9 gr9 nn9 hlg)))
                 obtain ⟨V10, hV⟩ : ∃ V, V = (w9.setCell ⟨w.heap.size, 2, none⟩ (.slice (some ⟨g, 0, none⟩) Q c)) := ⟨_, rfl⟩
                 rw [← hV]
                 have KF10 : Hid (Blk V10 (w.heap.size) [.slice (some ⟨g1, 0, none⟩) ts.length p1, .slice (some ⟨g2, 0, none⟩) cs.length p2, .slice (some ⟨g, 0, none⟩) Q c, .int .i64 nh, .int .i64 nc, .int .i64 nd]) := hide (by rw [hV]; exact (unhide KF9).set 2 (by simp) _)
                 have KR10 : Hid (Blk V10 (w.heap.size + 1 + 1) [.slice none 0 0, .slice none 0 0, .slice none 0 0, .int .i64 0, .int .i64 0, .int .i64 0]) := hide (by rw [hV]; exact (unhide KR9).other (p := ⟨w.heap.size, 2, none⟩) (by show w.heap.size ≠ w.heap.size + 1 + 1; omega) _)
                 have B10 : Hid (Below w.heap.size w V10) := hide (by rw [hV]; exact (unhide B9).setCell (p := ⟨w.heap.size, 2, none⟩) (Nat.le_refl _) _)
                 have O10 : Hid (OwnE 3 dfC V10 (w.heap.size + 3) 94 (.slice (some ⟨g, 0, none⟩) Q c) (ds.take p3 ++ ((⟨n, i, nd⟩ : Df) :: ds.drop p3))) := hide (by rw [hV]; exact (unhide O9).set_other _ (by intro e; have e : g = w.heap.size := Option.some.inj e; omega))
                 clear hV yy ff q0 q1 q2 q3 q4 q5
                 have q0 : V10.cell? ⟨w.heap.size, 0, none⟩ = some (.slice (some ⟨g1, 0, none⟩) ts.length p1) := (unhide KF10).c 0 (by simp)
                 have q1 : V10.cell? ⟨w.heap.size, 1, none⟩ = some (.slice (some ⟨g2, 0, none⟩) cs.length p2) := (unhide KF10).c 1 (by simp)
                 have q2 : V10.cell? ⟨w.heap.size, 2, none⟩ = some (.slice (some ⟨g, 0, none⟩) Q c) := (unhide KF10).c 2 (by simp)
                 have q3 : V10.cell? ⟨w.heap.size, 3, none⟩ = some (.int .i64 nh) := (unhide KF10).c 3 (by simp)
                 have q4 : V10.cell? ⟨w.heap.size, 4, none⟩ = some (.int .i64 nc) := (unhide KF10).c 4 (by simp)
                 have q5 : V10.cell? ⟨w.heap.size, 5, none⟩ = some (.int .i64 nd) := (unhide KF10).c 5 (by simp)
                 go_wp2_with (((with_reducible show wpList _ _ _ (⟨none, .store 37 _ _, _, _, _, none⟩ :: _) _ _); refine at_storeAgg (us := [.slice none 0 0, .slice none 0 0, .slice none 0 0, .int .i64 0, .int .i64 0, .int .i64 0]) (vs := [.slice (some ⟨g1, 0, none⟩) ts.length p1, .slice (some ⟨g2, 0, none⟩) cs.length p2, .slice (some ⟨g, 0, none⟩) Q c, .int .i64 nh, .int .i64 nc, .int .i64 nd]) Tryz.sizeOf37 rfl rfl (unhide KR10) rfl (fun v hv => by simp at hv; rcases hv with rfl | rfl | rfl | rfl | rfl | rfl <;> rfl) ?_; intro w11 k9 g9; have K11 := hide k9; have G11 := hide g9; clear k9 g9))
                 have lg := ((unhide O10).lies g rfl).1
                 have B11 := (unhide B10).grown (unhide G11) (unhide B10).size (fun q hq => by have e : w.heap.size + 1 + 1 = q := Option.some.inj hq; omega)
                 have O11 := (unhide O10).far (unhide G11) (fun q hq e => by have e1 : g = q := Option.some.inj hq; have e2 : q = w.heap.size + 1 + 1 := Option.some.inj e; omega)
                 have o1 := (unhide HO).o1.below B11
                 have o2 := (unhide HO).o2.below B11
                 refine bodyPost_ret (results_cellB (vs := [.slice (some ⟨g1, 0, none⟩) ts.length p1, .slice (some ⟨g2, 0, none⟩) cs.length p2, .slice (some ⟨g, 0, none⟩) Q c, .int .i64 nh, .int .i64 nc, .int .i64 nd]) rfl Tryz.isAgg37 Tryz.sizeOf37 rfl (unhide K11) rfl) rfl ⟨_, rfl, ⟨_, _, _, _, _, _, _, _, _, _, _, _, rfl, fun _ => by rw [unhide EF]; exact ⟨⟨o1, o2, O11.mono (by omega), (unhide HO).p12, own_ne o1 O11 (by decide), own_ne o2 O11 (by decide)⟩, rfl, rfl, rfl⟩⟩, mdG_of B11 hsz⟩)
          · have HS5 : Hid (¬ (p3 = k)) := hide hcj
            have RD : Hid (∀ V, Below w.heap.size w V → RowE 3 dfC V (some ⟨g3, k * 3, none⟩) (ds.length - k) (ds.drop k)) := hide (fun V b => ((unhide HO).o3.below b).row.dropN (by omega))
            clear hcj
            refine wp_region_flagsA (by kernel_rfl) (by kernel_rfl) (MfRJ w g1 p1 g2 p2 g3 p3 ts cs ds nh nc nd n i m k M (some ⟨g3, k * 3, none⟩) (ds.length - k) (p3 - k)) ?_ ?_ ?_
            · exact MfRJ.mk (v0 := undef) (v1 := undef) (v2 := undef) (v3 := undef) (v4 := undef) (v5 := undef) (v6 := undef) (v7 := undef) (v8 := undef) (v9 := undef) (v10 := undef) (v11 := undef) (v12 := undef) (v13 := undef) (v14 := undef) ⟨((unhide B6).trans (bel0d' 1)), ((unhide KF6).below (bel0d 1)), ((unhide KD6).below (bel0d 1)), ((unhide KR6).below (bel0d 1)), (fun h => by cases h), (fun h => by cases h), (fun h => by cases h), (fun h => by cases h), (fun h => by cases h), (fun h => by cases h), (fun h => by cases h), (fun h => by cases h), (fun h => by cases h), (fun h => by cases h), (fun h => by cases h), (fun h => by cases h), (fun h => by cases h), (fun h => by cases h), (fun h => by cases h), (fun h => by cases h)⟩ (by kernel_rfl)
            rotate_left 1
            · rintro l a V x o ho hl hd ⟨v0, v1, v2, v3, v4, v5, v6, v7, v8, v9, v10, v11, v12, v13, v14, rfl, K⟩
              have hi : x < 15 := (Array.getElem?_eq_some_iff.1 ho).1
              rcases (show x = 0 ∨ x = 1 ∨ x = 2 ∨ x = 3 ∨ x = 4 ∨ x = 5 ∨ x = 6 ∨ x = 7 ∨ x = 8 ∨ x = 9 ∨ x = 10 ∨ x = 11 ∨ x = 12 ∨ x = 13 ∨ x = 14 from by omega) with rfl | rfl | rfl | rfl | rfl | rfl | rfl | rfl | rfl | rfl | rfl | rfl | rfl | rfl | rfl
              · simp at ho
                subst ho
                have HK : Hid (MfR w g1 p1 g2 p2 g3 p3 ts cs ds nh nc nd n i m k M (some ⟨g3, k * 3, none⟩) (ds.length - k) (p3 - k) true (l 1) (l 2) (l 3) (l 4) (l 5) (l 6) (l 7) (l 8) (l 9) (l 10) (l 11) (l 12) (l 13) (l 14) (.pointer (some ⟨w.heap.size + 1, 1, none⟩)) v1 v2 v3 v4 v5 v6 v7 v8 v9 v10 v11 v12 v13 v14 V) := hide ⟨(K.bel), (K.kf), (K.kd), (K.kr), (fun _ => rfl), (K.e1), (K.e2), (K.e3), (K.e4), (K.e5), (K.e6), (K.e7), (K.e9), (K.e10), (K.e11), (K.e12), (K.a8), (K.a13), (K.c13_8), (K.c14_13)⟩
                clear K hd hl
                go_wp2_with fail
                exact ⟨rfl, MfRJ.mk (unhide HK) (by kernel_rfl)⟩
              · simp at ho
                subst ho
                have d0 : l 0 = true := hd ⟨0, .data⟩ (by simp) rfl
                have x0 := K.e0 d0
                subst x0
                have yy : V.cell? ⟨w.heap.size + 1, 1, none⟩ = some (.string n) := K.kd.c 1 (by simp)
                have HK : Hid (MfR w g1 p1 g2 p2 g3 p3 ts cs ds nh nc nd n i m k M (some ⟨g3, k * 3, none⟩) (ds.length - k) (p3 - k) (l 0) true (l 2) (l 3) (l 4) (l 5) (l 6) (l 7) (l 8) (l 9) (l 10) (l 11) (l 12) (l 13) (l 14) (.pointer (some ⟨w.heap.size + 1, 1, none⟩)) (.string n) v2 v3 v4 v5 v6 v7 v8 v9 v10 v11 v12 v13 v14 V) := hide ⟨(K.bel), (K.kf), (K.kd), (K.kr), (K.e0), (fun _ => rfl), (K.e2), (K.e3), (K.e4), (K.e5), (K.e6), (K.e7), (K.e9), (K.e10), (K.e11), (K.e12), (K.a8), (K.a13), (K.c13_8), (K.c14_13)⟩
                clear K hd hl
                go_wp2_with fail
                exact ⟨rfl, MfRJ.mk (unhide HK) (by kernel_rfl)⟩
              · simp at ho
                subst ho
                have HK : Hid (MfR w g1 p1 g2 p2 g3 p3 ts cs ds nh nc nd n i m k M (some ⟨g3, k * 3, none⟩) (ds.length - k) (p3 - k) (l 0) (l 1) true (l 3) (l 4) (l 5) (l 6) (l 7) (l 8) (l 9) (l 10) (l 11) (l 12) (l 13) (l 14) v0 v1 (.pointer (some ⟨w.heap.size + 1, 2, none⟩)) v3 v4 v5 v6 v7 v8 v9 v10 v11 v12 v13 v14 V) := hide ⟨(K.bel), (K.kf), (K.kd), (K.kr), (K.e0), (K.e1), (fun _ => rfl), (K.e3), (K.e4), (K.e5), (K.e6), (K.e7), (K.e9), (K.e10), (K.e11), (K.e12), (K.a8), (K.a13), (K.c13_8), (K.c14_13)⟩
                clear K hd hl
                go_wp2_with fail
                exact ⟨rfl, MfRJ.mk (unhide HK) (by kernel_rfl)⟩
              · simp at ho
                subst ho
                have d2 : l 2 = true := hd ⟨2, .data⟩ (by simp) rfl
                have x2 := K.e2 d2
                subst x2
                have yy : V.cell? ⟨w.heap.size + 1, 2, none⟩ = some (.int .i64 i) := K.kd.c 2 (by simp)
                have HK : Hid (MfR w g1 p1 g2 p2 g3 p3 ts cs ds nh nc nd n i m k M (some ⟨g3, k * 3, none⟩) (ds.length - k) (p3 - k) (l 0) (l 1) (l 2) true (l 4) (l 5) (l 6) (l 7) (l 8) (l 9) (l 10) (l 11) (l 12) (l 13) (l 14) v0 v1 (.pointer (some ⟨w.heap.size + 1, 2, none⟩)) (.int .i64 i) v4 v5 v6 v7 v8 v9 v10 v11 v12 v13 v14 V) := hide ⟨(K.bel), (K.kf), (K.kd), (K.kr), (K.e0), (K.e1), (K.e2), (fun _ => rfl), (K.e4), (K.e5), (K.e6), (K.e7), (K.e9), (K.e10), (K.e11), (K.e12), (K.a8), (K.a13), (K.c13_8), (K.c14_13)⟩
                clear K hd hl
                go_wp2_with fail
                exact ⟨rfl, MfRJ.mk (unhide HK) (by kernel_rfl)⟩
              · simp at ho
                subst ho
                have HK : Hid (MfR w g1 p1 g2 p2 g3 p3 ts cs ds nh nc nd n i m k M (some ⟨g3, k * 3, none⟩) (ds.length - k) (p3 - k) (l 0) (l 1) (l 2) (l 3) true (l 5) (l 6) (l 7) (l 8) (l 9) (l 10) (l 11) (l 12) (l 13) (l 14) v0 v1 v2 v3 (.pointer (some ⟨w.heap.size, 3, none⟩)) v5 v6 v7 v8 v9 v10 v11 v12 v13 v14 V) := hide ⟨(K.bel), (K.kf), (K.kd), (K.kr), (K.e0), (K.e1), (K.e2), (K.e3), (fun _ => rfl), (K.e5), (K.e6), (K.e7), (K.e9), (K.e10), (K.e11), (K.e12), (K.a8), (K.a13), (K.c13_8), (K.c14_13)⟩
                clear K hd hl
                go_wp2_with fail
                exact ⟨rfl, MfRJ.mk (unhide HK) (by kernel_rfl)⟩
              · simp at ho
                subst ho
                have d4 : l 4 = true := hd ⟨4, .data⟩ (by simp) rfl
                have x4 := K.e4 d4
                subst x4
                have HK : Hid (MfR w g1 p1 g2 p2 g3 p3 ts cs ds nh nc nd n i m k M (some ⟨g3, k * 3, none⟩) (ds.length - k) (p3 - k) (l 0) (l 1) (l 2) (l 3) (l 4) true (l 6) (l 7) (l 8) (l 9) (l 10) (l 11) (l 12) (l 13) (l 14) v0 v1 v2 v3 (.pointer (some ⟨w.heap.size, 3, none⟩)) (.pointer (some ⟨w.heap.size, 5, none⟩)) v6 v7 v8 v9 v10 v11 v12 v13 v14 V) := hide ⟨(K.bel), (K.kf), (K.kd), (K.kr), (K.e0), (K.e1), (K.e2), (K.e3), (K.e4), (fun _ => rfl), (K.e6), (K.e7), (K.e9), (K.e10), (K.e11), (K.e12), (K.a8), (K.a13), (K.c13_8), (K.c14_13)⟩
                clear K hd hl
                go_wp2_with fail
                exact ⟨rfl, MfRJ.mk (unhide HK) (by kernel_rfl)⟩
              · simp at ho
                subst ho
                have d5 : l 5 = true := hd ⟨5, .data⟩ (by simp) rfl
                have x5 := K.e5 d5
                subst x5
                have yy : V.cell? ⟨w.heap.size, 5, none⟩ = some (.int .i64 nd) := K.kf.c 5 (by simp)
                have HK : Hid (MfR w g1 p1 g2 p2 g3 p3 ts cs ds nh nc nd n i m k M (some ⟨g3, k * 3, none⟩) (ds.length - k) (p3 - k) (l 0) (l 1) (l 2) (l 3) (l 4) (l 5) true (l 7) (l 8) (l 9) (l 10) (l 11) (l 12) (l 13) (l 14) v0 v1 v2 v3 v4 (.pointer (some ⟨w.heap.size, 5, none⟩)) (.int .i64 nd) v7 v8 v9 v10 v11 v12 v13 v14 V) := hide ⟨(K.bel), (K.kf), (K.kd), (K.kr), (K.e0), (K.e1), (K.e2), (K.e3), (K.e4), (K.e5), (fun _ => rfl), (K.e7), (K.e9), (K.e10), (K.e11), (K.e12), (K.a8), (K.a13), (K.c13_8), (K.c14_13)⟩
                clear K hd hl
                go_wp2_with fail
                exact ⟨rfl, MfRJ.mk (unhide HK) (by kernel_rfl)⟩
              · simp at ho
                subst ho
                have d1 : l 1 = true := hd ⟨1, .data⟩ (by simp) rfl
                have x1 := K.e1 d1
                subst x1
                have d3 : l 3 = true := hd ⟨3, .data⟩ (by simp) rfl
                have x3 := K.e3 d3
                subst x3
                have d6 : l 6 = true := hd ⟨6, .data⟩ (by simp) rfl
                have x6 := K.e6 d6
                subst x6
                have HK : Hid (MfR w g1 p1 g2 p2 g3 p3 ts cs ds nh nc nd n i m k M (some ⟨g3, k * 3, none⟩) (ds.length - k) (p3 - k) (l 0) (l 1) (l 2) (l 3) (l 4) (l 5) (l 6) true (l 8) (l 9) (l 10) (l 11) (l 12) (l 13) (l 14) v0 (.string n) v2 (.int .i64 i) v4 v5 (.int .i64 nd) (.agg #[.string n, .int .i64 i, .int .i64 nd]) v8 v9 v10 v11 v12 v13 v14 V) := hide ⟨(K.bel), (K.kf), (K.kd), (K.kr), (K.e0), (K.e1), (K.e2), (K.e3), (K.e4), (K.e5), (K.e6), (fun _ => rfl), (K.e9), (K.e10), (K.e11), (K.e12), (K.a8), (K.a13), (K.c13_8), (K.c14_13)⟩
                clear K hd hl
                go_wp2_with fail
                exact ⟨rfl, MfRJ.mk (unhide HK) (by kernel_rfl)⟩
              · simp at ho
                subst ho
                have d7 : l 7 = true := hd ⟨7, .data⟩ (by simp) rfl
                have x7 := K.e7 d7
                subst x7
                have n13 : l 13 = false := by cases c : l 13; rfl; have z := K.c13_8 c; rw [hl] at z; cases z
                have s9 := K.kr.lt
                have HK : Hid (MfR w g1 p1 g2 p2 g3 p3 ts cs ds nh nc nd n i m k M (some ⟨g3, k * 3, none⟩) (ds.length - k) (p3 - k) (l 0) (l 1) (l 2) (l 3) (l 4) (l 5) (l 6) (l 7) true (l 9) (l 10) (l 11) (l 12) (l 13) (l 14) v0 v1 v2 v3 v4 v5 v6 (.agg #[.string n, .int .i64 i, .int .i64 nd]) (.slice (some ⟨V.heap.size, 0, none⟩) 1 1) v9 v10 v11 v12 v13 v14 (V.alloc (Obj.cells #[.string n, .int .i64 i, .int .i64 nd] 94))) := hide ⟨(K.bel.alloc K.bel.size _), (K.kf.alloc _), (K.kd.alloc _), (K.kr.alloc _), (K.e0), (K.e1), (K.e2), (K.e3), (K.e4), (K.e5), (K.e6), (K.e7), (K.e9), (K.e10), (K.e11), (K.e12), (fun _ _ => ⟨_, rfl, ownD_one (show w.heap.size + 3 ≤ V.heap.size from by omega)⟩), (fun h => by have h : l 13 = true := h; rw [n13] at h; cases h), (fun _ => rfl), (K.c14_13)⟩
                clear K hd hl n13 s9
                go_wp2_with fail
                exact ⟨rfl, MfRJ.mk (unhide HK) (by kernel_rfl)⟩
              · simp at ho
                subst ho
                have HK : Hid (MfR w g1 p1 g2 p2 g3 p3 ts cs ds nh nc nd n i m k M (some ⟨g3, k * 3, none⟩) (ds.length - k) (p3 - k) (l 0) (l 1) (l 2) (l 3) (l 4) (l 5) (l 6) (l 7) (l 8) true (l 10) (l 11) (l 12) (l 13) (l 14) v0 v1 v2 v3 v4 v5 v6 v7 v8 (.pointer (some ⟨w.heap.size, 2, none⟩)) v10 v11 v12 v13 v14 V) := hide ⟨(K.bel), (K.kf), (K.kd), (K.kr), (K.e0), (K.e1), (K.e2), (K.e3), (K.e4), (K.e5), (K.e6), (K.e7), (fun _ => rfl), (K.e10), (K.e11), (K.e12), (K.a8), (K.a13), (K.c13_8), (K.c14_13)⟩
                clear K hd hl
                go_wp2_with fail
                exact ⟨rfl, MfRJ.mk (unhide HK) (by kernel_rfl)⟩
              · simp at ho
                subst ho
                have d9 : l 9 = true := hd ⟨9, .data⟩ (by simp) rfl
                have x9 := K.e9 d9
                subst x9
                have yy : V.cell? ⟨w.heap.size, 2, none⟩ = some (.slice (some ⟨g3, 0, none⟩) ds.length p3) := K.kf.c 2 (by simp)
                have HK : Hid (MfR w g1 p1 g2 p2 g3 p3 ts cs ds nh nc nd n i m k M (some ⟨g3, k * 3, none⟩) (ds.length - k) (p3 - k) (l 0) (l 1) (l 2) (l 3) (l 4) (l 5) (l 6) (l 7) (l 8) (l 9) true (l 11) (l 12) (l 13) (l 14) v0 v1 v2 v3 v4 v5 v6 v7 v8 (.pointer (some ⟨w.heap.size, 2, none⟩)) (.slice (some ⟨g3, 0, none⟩) ds.length p3) v11 v12 v13 v14 V) := hide ⟨(K.bel), (K.kf), (K.kd), (K.kr), (K.e0), (K.e1), (K.e2), (K.e3), (K.e4), (K.e5), (K.e6), (K.e7), (K.e9), (fun _ => rfl), (K.e11), (K.e12), (K.a8), (K.a13), (K.c13_8), (K.c14_13)⟩
                clear K hd hl
                go_wp2_with fail
                exact ⟨rfl, MfRJ.mk (unhide HK) (by kernel_rfl)⟩
              · simp at ho
                subst ho
                have HK : Hid (MfR w g1 p1 g2 p2 g3 p3 ts cs ds nh nc nd n i m k M (some ⟨g3, k * 3, none⟩) (ds.length - k) (p3 - k) (l 0) (l 1) (l 2) (l 3) (l 4) (l 5) (l 6) (l 7) (l 8) (l 9) (l 10) true (l 12) (l 13) (l 14) v0 v1 v2 v3 v4 v5 v6 v7 v8 v9 v10 (.int .i64 (k : Int)) v12 v13 v14 V) := hide ⟨(K.bel), (K.kf), (K.kd), (K.kr), (K.e0), (K.e1), (K.e2), (K.e3), (K.e4), (K.e5), (K.e6), (K.e7), (K.e9), (K.e10), (fun _ => rfl), (K.e12), (K.a8), (K.a13), (K.c13_8), (K.c14_13)⟩
                clear K hd hl
                go_wp2_with fail
                exact ⟨rfl, MfRJ.mk (unhide HK) (by kernel_rfl)⟩
              · simp at ho
                subst ho
                have d10 : l 10 = true := hd ⟨10, .data⟩ (by simp) rfl
                have x10 := K.e10 d10
                subst x10
                have d11 : l 11 = true := hd ⟨11, .data⟩ (by simp) rfl
                have x11 := K.e11 d11
                subst x11
                obtain ⟨f1, f2, f2b, f2c⟩ := unhide HS1
                obtain ⟨f3, f3b, f4, f4b⟩ := unhide HS3
                have f5 := unhide HS5
                have f6 := unhide HS6
                have HK : Hid (MfR w g1 p1 g2 p2 g3 p3 ts cs ds nh nc nd n i m k M (some ⟨g3, k * 3, none⟩) (ds.length - k) (p3 - k) (l 0) (l 1) (l 2) (l 3) (l 4) (l 5) (l 6) (l 7) (l 8) (l 9) (l 10) (l 11) true (l 13) (l 14) v0 v1 v2 v3 v4 v5 v6 v7 v8 v9 (.slice (some ⟨g3, 0, none⟩) ds.length p3) (.int .i64 (k : Int)) (.slice (some ⟨g3, k * 3, none⟩) (ds.length - k) (p3 - k)) v13 v14 V) := hide ⟨(K.bel), (K.kf), (K.kd), (K.kr), (K.e0), (K.e1), (K.e2), (K.e3), (K.e4), (K.e5), (K.e6), (K.e7), (K.e9), (K.e10), (K.e11), (fun _ => rfl), (K.a8), (K.a13), (K.c13_8), (K.c14_13)⟩
                clear K hd hl
                go_wp2_with fail
                (try simp only [Nat.zero_add])
                exact ⟨rfl, MfRJ.mk (unhide HK) (by kernel_rfl)⟩
              · simp at ho
                subst ho
                have d8 : l 8 = true := hd ⟨8, .data⟩ (by simp) rfl
                have d12 : l 12 = true := hd ⟨12, .data⟩ (by simp) rfl
                have x12 := K.e12 d12
                subst x12
                obtain ⟨vb, xb, ob⟩ := K.a8 d8 hl
                subst xb
                have n14 : l 14 = false := by cases c : l 14; rfl; have z := K.c14_13 c; rw [hl] at z; cases z
                have RS := hide ((unhide RD) V K.bel)
                have OB := hide ob
                have lb := (ob.lies vb rfl)
                have s9 := K.kr.lt
                have SZ : Hid (w.heap.size + 3 ≤ V.heap.size) := hide (by omega)
                have HK0 := hide K
                clear K hd ob
                go_wp2_with (at_builtin; go_loud (refine wpList_app_elsM (K := 3) (cells := dfC) (by kernel_rfl) _ _ 34 94 rfl Tryz.underlying34 infoDf rfl (by decide) (by decide) dfCell1' (unhide OB) (by kernel_rfl) (some ⟨g3, k * 3, none⟩) (ds.length - k) (p3 - k) (ds.drop k) (by kernel_rfl) (unhide RS) (by simp <;> omega) (unhide SZ) ?_; intro v9 w9 o9 gr9 nn9; have o9 : OwnE 3 dfC w9 (w.heap.size + 3) 94 (v9) ((⟨n, i, nd⟩ : Df) :: ds.drop k) := o9; obtain ⟨g, c, rfl, hbg, hlg⟩ := fc_shape o9 nn9 (by simp); rw [unhide HLM] at o9; rw [unhide HLM]; have HK : Hid (MfR w g1 p1 g2 p2 g3 p3 ts cs ds nh nc nd n i m k M (some ⟨g3, k * 3, none⟩) (ds.length - k) (p3 - k) (l 0) (l 1) (l 2) (l 3) (l 4) (l 5) (l 6) (l 7) (l 8) (l 9) (l 10) (l 11) (l 12) true (l 14) v0 v1 v2 v3 v4 v5 v6 v7 (.slice (some ⟨vb, 0, none⟩) 1 1) v9 v10 v11 (.slice (some ⟨g3, k * 3, none⟩) (ds.length - k) (p3 - k)) (.slice (some ⟨g, 0, none⟩) M c) v14 w9) := hide ⟨((unhide HK0).bel.grown gr9 (unhide HK0).bel.size (fun q hq => by have e : vb = q := Option.some.inj hq; omega)), ((unhide HK0).kf.apart gr9 (fun e => by have e : w.heap.size = vb := Option.some.inj e; omega)), ((unhide HK0).kd.apart gr9 (fun e => by have e : w.heap.size + 1 = vb := Option.some.inj e; omega)), ((unhide HK0).kr.apart gr9 (fun e => by have e : w.heap.size + 1 + 1 = vb := Option.some.inj e; omega)), ((unhide HK0).e0), ((unhide HK0).e1), ((unhide HK0).e2), ((unhide HK0).e3), ((unhide HK0).e4), ((unhide HK0).e5), ((unhide HK0).e6), ((unhide HK0).e7), ((unhide HK0).e9), ((unhide HK0).e10), ((unhide HK0).e11), ((unhide HK0).e12), (fun _ h => by cases h), (fun _ => ⟨g, c, rfl, (fun h => by have h : l 14 = true := h; rw [n14] at h; cases h), o9⟩), (fun _ => d8), (fun _ => rfl)⟩; clear o9 gr9 nn9 hbg hlg))
                exact ⟨rfl, MfRJ.mk (unhide HK) (by kernel_rfl)⟩
              · simp at ho
                subst ho
                have d13 : l 13 = true := hd ⟨13, .data⟩ (by simp) rfl
                obtain ⟨g, c, xg, _, og⟩ := K.a13 d13
                subst xg
                have HK : Hid (MfR w g1 p1 g2 p2 g3 p3 ts cs ds nh nc nd n i m k M (some ⟨g3, k * 3, none⟩) (ds.length - k) (p3 - k) (l 0) (l 1) (l 2) (l 3) (l 4) (l 5) (l 6) (l 7) (l 8) (l 9) (l 10) (l 11) (l 12) (l 13) true v0 v1 v2 v3 v4 v5 v6 v7 v8 v9 v10 v11 v12 (.slice (some ⟨g, 0, none⟩) M c) (.slice (some ⟨g, 0, none⟩) M c) V) := hide ⟨(K.bel), (K.kf), (K.kd), (K.kr), (K.e0), (K.e1), (K.e2), (K.e3), (K.e4), (K.e5), (K.e6), (K.e7), (K.e9), (K.e10), (K.e11), (K.e12), (K.a8), (fun _ => ⟨g, c, rfl, fun _ => rfl, og⟩), (K.c13_8), (fun _ => d13)⟩
                clear K hd hl og
                go_wp2_with fail
                exact ⟨rfl, MfRJ.mk (unhide HK) (by kernel_rfl)⟩
            rintro l a V7 hall ⟨v0, v1, v2, v3, v4, v5, v6, v7, v8, v9, v10, v11, v12, v13, v14, rfl, K⟩
            obtain ⟨g0, c0, xg, xh, og⟩ := K.a13 (hall 13 (by decide))
            have xh := xh (hall 14 (by decide))
            subst xg
            subst xh
            have OG := hide og
            have KF7 := hide K.kf
            have KR7 := hide K.kr
            have B7 := hide K.bel
            have lg0 := og.lies g0 rfl
            clear K hall og
            have s7 := (unhide KR7).lt
            have OB : Hid (OwnE 3 dfC (V7.alloc (Obj.cells #[] 94)) (w.heap.size + 3) 94 (.slice (some ⟨V7.heap.size, 0, none⟩) 0 0) []) := hide ((ownE_none (Nat.le_refl _)).mono (show w.heap.size + 3 ≤ V7.heap.size from by omega))
            have BA : Hid (Below w.heap.size w (V7.alloc (Obj.cells #[] 94))) := hide ((unhide B7).alloc (unhide B7).size _)
            have RS := hide ((unhide RT) _ (unhide BA))
            have SZ : Hid (w.heap.size + 3 ≤ (V7.alloc (Obj.cells #[] 94)).heap.size) := hide (by simp; omega)
            go_upto_region 31 with fail
            have q0 : (V7.alloc (Obj.cells #[] 94)).cell? ⟨w.heap.size, 0, none⟩ = some (.slice (some ⟨g1, 0, none⟩) ts.length p1) := ((unhide KF7).alloc (Obj.cells #[] 94)).c 0 (by simp)
            have q1 : (V7.alloc (Obj.cells #[] 94)).cell? ⟨w.heap.size, 1, none⟩ = some (.slice (some ⟨g2, 0, none⟩) cs.length p2) := ((unhide KF7).alloc (Obj.cells #[] 94)).c 1 (by simp)
            have q2 : (V7.alloc (Obj.cells #[] 94)).cell? ⟨w.heap.size, 2, none⟩ = some (.slice (some ⟨g3, 0, none⟩) ds.length p3) := ((unhide KF7).alloc (Obj.cells #[] 94)).c 2 (by simp)
            have q3 : (V7.alloc (Obj.cells #[] 94)).cell? ⟨w.heap.size, 3, none⟩ = some (.int .i64 nh) := ((unhide KF7).alloc (Obj.cells #[] 94)).c 3 (by simp)
            have q4 : (V7.alloc (Obj.cells #[] 94)).cell? ⟨w.heap.size, 4, none⟩ = some (.int .i64 nc) := ((unhide KF7).alloc (Obj.cells #[] 94)).c 4 (by simp)
            have q5 : (V7.alloc (Obj.cells #[] 94)).cell? ⟨w.heap.size, 5, none⟩ = some (.int .i64 nd) := ((unhide KF7).alloc (Obj.cells #[] 94)).c 5 (by simp)
            obtain ⟨f1, f2, f2b, f2c⟩ := unhide HS1
            go_upto_region 32 with (at_builtin; first | ((refine wpList_app_elsM (K := 3) (cells := dfC) (by kernel_rfl) _ _ 34 94 rfl Tryz.underlying34 infoDf rfl (by decide) (by decide) dfCell1' (unhide OB) (by kernel_rfl) (some ⟨g3, 0, none⟩) k p3 (ds.take k) (by kernel_rfl) (unhide RS) (by simp <;> omega) (unhide SZ) ?_; intro v8 w8 o8 gr8 nn8; rw [List.nil_append] at o8; obtain ⟨g8, c8, rfl, hbg8, hlg8⟩ := fc_shape o8 nn8 (by simp); rw [unhide HL5] at o8; rw [unhide HL5]; have B8 := hide ((unhide BA).grown gr8 (unhide BA).size (fun q hq => by have e : V7.heap.size = q := Option.some.inj hq; omega)); have OB2 := hide o8; have RS2 := hide (((unhide OG).below (bel1 _)).far gr8 (fun q hq e => by have e1 : g0 = q := Option.some.inj hq; have e2 : q = V7.heap.size := Option.some.inj e; omega)).row; have KF8 := hide (((unhide KF7).alloc (Obj.cells #[] 94)).apart gr8 (fun e => by have e : w.heap.size = V7.heap.size := Option.some.inj e; omega)); have KR8 := hide (((unhide KR7).alloc (Obj.cells #[] 94)).apart gr8 (fun e => by have e : w.heap.size + 1 + 1 = V7.heap.size := Option.some.inj e; omega)); have SZ2 : Hid (w.heap.size + 3 ≤ w8.heap.size) := hide (by have h1 := (unhide KR8).lt; omega); clear o8 gr8 nn8 hlg8)) | ((refine wpList_app_elsM (K := 3) (cells := dfC) (by kernel_rfl) _ _ 34 94 rfl Tryz.underlying34 infoDf rfl (by decide) (by decide) dfCell1' (unhide OB2) (by kernel_rfl) (some ⟨g0, 0, none⟩) M c0 ((⟨n, i, nd⟩ : Df) :: ds.drop k) (by kernel_rfl) (unhide RS2) (by simp <;> omega) (unhide SZ2) ?_; intro v9 w9 o9 gr9 nn9; obtain ⟨g, c, rfl, hbg, hlg⟩ := fc_shape o9 nn9 (by simp); rw [unhide HLQ] at o9; rw [unhide HLQ]; have B9 := hide ((unhide B8).grown gr9 (unhide B8).size (fun q hq => by have e : g8 = q := Option.some.inj hq; omega)); have O9 := hide o9; have KF9 := hide ((unhide KF8).apart gr9 (fun e => by have e : w.heap.size = g8 := Option.some.inj e; omega)); have KR9 := hide ((unhide KR8).apart gr9 (fun e => by have e : w.heap.size + 1 + 1 = g8 := Option.some.inj e; omega)); have yy : w9.cell? ⟨w.heap.size, 2, none⟩ = some (.slice (some ⟨g3, 0, none⟩) ds.length p3) := (unhide KF9).c 2 (by simp); have ff : w9.frozen? ⟨w.heap.size, 2, none⟩ = false := (unhide KF9).f 2 (by simp); clear o9 gr9 nn9 hlg)))
            obtain ⟨V10, hV⟩ : ∃ V, V = (w9.setCell ⟨w.heap.size, 2, none⟩ (.slice (some ⟨g, 0, none⟩) Q c)) := ⟨_, rfl⟩
            rw [← hV]
            have KF10 : Hid (Blk V10 (w.heap.size) [.slice (some ⟨g1, 0, none⟩) ts.length p1, .slice (some ⟨g2, 0, none⟩) cs.length p2, .slice (some ⟨g, 0, none⟩) Q c, .int .i64 nh, .int .i64 nc, .int .i64 nd]) := hide (by rw [hV]; exact (unhide KF9).set 2 (by simp) _)
            have KR10 : Hid (Blk V10 (w.heap.size + 1 + 1) [.slice none 0 0, .slice none 0 0, .slice none 0 0, .int .i64 0, .int .i64 0, .int .i64 0]) := hide (by rw [hV]; exact (unhide KR9).other (p := ⟨w.heap.size, 2, none⟩) (by show w.heap.size ≠ w.heap.size + 1 + 1; omega) _)
            have B10 : Hid (Below w.heap.size w V10) := hide (by rw [hV]; exact (unhide B9).setCell (p := ⟨w.heap.size, 2, none⟩) (Nat.le_refl _) _)
            have O10 : Hid (OwnE 3 dfC V10 (w.heap.size + 3) 94 (.slice (some ⟨g, 0, none⟩) Q c) (ds.take k ++ ((⟨n, i, nd⟩ : Df) :: ds.drop k))) := hide (by rw [hV]; exact (unhide O9).set_other _ (by intro e; have e : g = w.heap.size := Option.some.inj e; omega))
            clear hV yy ff q0 q1 q2 q3 q4 q5
            have q0 : V10.cell? ⟨w.heap.size, 0, none⟩ = some (.slice (some ⟨g1, 0, none⟩) ts.length p1) := (unhide KF10).c 0 (by simp)
            have q1 : V10.cell? ⟨w.heap.size, 1, none⟩ = some (.slice (some ⟨g2, 0, none⟩) cs.length p2) := (unhide KF10).c 1 (by simp)
            have q2 : V10.cell? ⟨w.heap.size, 2, none⟩ = some (.slice (some ⟨g, 0, none⟩) Q c) := (unhide KF10).c 2 (by simp)
            have q3 : V10.cell? ⟨w.heap.size, 3, none⟩ = some (.int .i64 nh) := (unhide KF10).c 3 (by simp)
            have q4 : V10.cell? ⟨w.heap.size, 4, none⟩ = some (.int .i64 nc) := (unhide KF10).c 4 (by simp)
            have q5 : V10.cell? ⟨w.heap.size, 5, none⟩ = some (.int .i64 nd) := (unhide KF10).c 5 (by simp)
            go_wp2_with (((with_reducible show wpList _ _ _ (⟨none, .store 37 _ _, _, _, _, none⟩ :: _) _ _); refine at_storeAgg (us := [.slice none 0 0, .slice none 0 0, .slice none 0 0, .int .i64 0, .int .i64 0, .int .i64 0]) (vs := [.slice (some ⟨g1, 0, none⟩) ts.length p1, .slice (some ⟨g2, 0, none⟩) cs.length p2, .slice (some ⟨g, 0, none⟩) Q c, .int .i64 nh, .int .i64 nc, .int .i64 nd]) Tryz.sizeOf37 rfl rfl (unhide KR10) rfl (fun v hv => by simp at hv; rcases hv with rfl | rfl | rfl | rfl | rfl | rfl <;> rfl) ?_; intro w11 k9 g9; have K11 := hide k9; have G11 := hide g9; clear k9 g9))
            have lg := ((unhide O10).lies g rfl).1
            have B11 := (unhide B10).grown (unhide G11) (unhide B10).size (fun q hq => by have e : w.heap.size + 1 + 1 = q := Option.some.inj hq; omega)
            have O11 := (unhide O10).far (unhide G11) (fun q hq e => by have e1 : g = q := Option.some.inj hq; have e2 : q = w.heap.size + 1 + 1 := Option.some.inj e; omega)
            have o1 := (unhide HO).o1.below B11
            have o2 := (unhide HO).o2.below B11
            refine bodyPost_ret (results_cellB (vs := [.slice (some ⟨g1, 0, none⟩) ts.length p1, .slice (some ⟨g2, 0, none⟩) cs.length p2, .slice (some ⟨g, 0, none⟩) Q c, .int .i64 nh, .int .i64 nc, .int .i64 nd]) rfl Tryz.isAgg37 Tryz.sizeOf37 rfl (unhide K11) rfl) rfl ⟨_, rfl, ⟨_, _, _, _, _, _, _, _, _, _, _, _, rfl, fun _ => by rw [unhide EF]; exact ⟨⟨o1, o2, O11.mono (by omega), (unhide HO).p12, own_ne o1 O11 (by decide), own_ne o2 O11 (by decide)⟩, rfl, rfl, rfl⟩⟩, mdG_of B11 hsz⟩
    · have hi1 : ¬ (k : Int) < (ds.length : Int) := by omega
      go_wp2_with fail
      obtain ⟨ιfW, fW, _, hb, hall⟩ := belClass wr
      have HB := hide hb
      have HA := hide hall
      have d2 : ∀ z, (fW z).cell? ⟨w.heap.size, 2, none⟩ = some (.slice (some ⟨g3, 0, none⟩) ds.length p3) := fun z => ((unhide KF4).below (hb z)).c 2 (by simp)
      have d5 : ∀ z, (fW z).cell? ⟨w.heap.size + 1, 2, none⟩ = some (.int .i64 i) := fun z => ((unhide KD4).below (hb z)).c 2 (by simp)
      clear hb hall
      obtain ⟨x0, h0⟩ := (unhide HA) wr (Below.refl _ _)
      rw [h0]
      clear h0
      refine wp_region_bel (fun w' h => (unhide HA) w' ((unhide HB _).trans (h.mono (unhide HB _).size))) (by kernel_rfl) (by kernel_rfl) ?_
      (repeat (go_big_quiet_step (fail)))
      refine wpQuiet_nil ?_
      rintro _ ⟨y, rfl⟩
      have KF5 := hide ((unhide KF4).below (unhide HB y))
      have KD5 := hide ((unhide KD4).below (unhide HB y))
      have KR5 := hide ((unhide KR4).below (unhide HB y))
      have B5 := hide ((unhide B4).trans ((unhide HB y).mono (unhide B4).size))
      clear KF4 KD4 KR4 B4 d2 d5 HA HB
      generalize fW y = w5 at *
      go_wp2_with fail
      obtain ⟨ιfV, fV, _, hb, hall⟩ := belClass w5
      have HB := hide hb
      have HA := hide hall
      have d2 : ∀ z, (fV z).cell? ⟨w.heap.size, 2, none⟩ = some (.slice (some ⟨g3, 0, none⟩) ds.length p3) := fun z => ((unhide KF5).below (hb z)).c 2 (by simp)
      have d5 : ∀ z, (fV z).cell? ⟨w.heap.size + 1, 2, none⟩ = some (.int .i64 i) := fun z => ((unhide KD5).below (hb z)).c 2 (by simp)
      clear hb hall
      obtain ⟨x0, h0⟩ := (unhide HA) w5 (Below.refl _ _)
      rw [h0]
      clear h0
      refine wp_region_bel (fun w' h => (unhide HA) w' ((unhide HB _).trans (h.mono (unhide HB _).size))) (by kernel_rfl) (by kernel_rfl) ?_
      (repeat (go_big_quiet_step (fail)))
      refine wpQuiet_nil ?_
      rintro _ ⟨y, rfl⟩
      have KF6 := hide ((unhide KF5).below (unhide HB y))
      have KD6 := hide ((unhide KD5).below (unhide HB y))
      have KR6 := hide ((unhide KR5).below (unhide HB y))
      have B6 := hide ((unhide B5).trans ((unhide HB y).mono (unhide B5).size))
      clear KF5 KD5 KR5 B5 d2 d5 HA HB
      generalize fV y = w6 at *
      obtain ⟨eB, eF⟩ := (unhide E2) k hk (unhide AL) (.inl (by omega))
      clear E1 E2 AL
      have q0 : w6.cell? ⟨w.heap.size, 0, none⟩ = some (.slice (some ⟨g1, 0, none⟩) ts.length p1) := (unhide KF6).c 0 (by simp)
      have q1 : w6.cell? ⟨w.heap.size, 1, none⟩ = some (.slice (some ⟨g2, 0, none⟩) cs.length p2) := (unhide KF6).c 1 (by simp)
      have q2 : w6.cell? ⟨w.heap.size, 2, none⟩ = some (.slice (some ⟨g3, 0, none⟩) ds.length p3) := (unhide KF6).c 2 (by simp)
      have q3 : w6.cell? ⟨w.heap.size, 3, none⟩ = some (.int .i64 nh) := (unhide KF6).c 3 (by simp)
      have q4 : w6.cell? ⟨w.heap.size, 4, none⟩ = some (.int .i64 nc) := (unhide KF6).c 4 (by simp)
      have q5 : w6.cell? ⟨w.heap.size, 5, none⟩ = some (.int .i64 nd) := (unhide KF6).c 5 (by simp)
      have y0 : w6.cell? ⟨w.heap.size + 1, 0, none⟩ = some (.int .i64 3) := (unhide KD6).c 0 (by simp)
      have y1 : w6.cell? ⟨w.heap.size + 1, 1, none⟩ = some (.string n) := (unhide KD6).c 1 (by simp)
      have y2 : w6.cell? ⟨w.heap.size + 1, 2, none⟩ = some (.int .i64 i) := (unhide KD6).c 2 (by simp)
      have y3 : w6.cell? ⟨w.heap.size + 1, 3, none⟩ = some (.int .i64 m) := (unhide KD6).c 3 (by simp)
      rcases three (nameB n) (inB i 1 1000000) (decide (ds.length < 20)) with ⟨r1, hv⟩ | ⟨r1, r2, hv⟩ | ⟨r1, r2, r3, hv⟩ | ⟨r1, r2, r3, hv⟩
      · rw [hv] at eB
        subst eB
        clear eF hv
        have CN : Hid (∀ W, Calls Tryz.prog 69 #[.string n] W fun e w' => e = .returned (.bool false) ∧ w' = W) := hide (fun W => by have := l1Name_any n W hn; rw [r1] at this; exact this)
        go_wp2_with fail
        refine (unhide CN _).mono ?_
        rintro e w' ⟨rfl, hw⟩
        subst w'
        go_wp2_with (((with_reducible show wpList _ _ _ (⟨none, .store 37 _ _, _, _, _, none⟩ :: _) _ _); refine at_storeAgg (us := [.slice none 0 0, .slice none 0 0, .slice none 0 0, .int .i64 0, .int .i64 0, .int .i64 0]) (vs := [.slice (some ⟨g1, 0, none⟩) ts.length p1, .slice (some ⟨g2, 0, none⟩) cs.length p2, .slice (some ⟨g3, 0, none⟩) ds.length p3, .int .i64 nh, .int .i64 nc, .int .i64 nd]) Tryz.sizeOf37 rfl rfl (unhide KR6) rfl (fun v hv => by simp at hv; rcases hv with rfl | rfl | rfl | rfl | rfl | rfl <;> rfl) ?_; intro w9 k9 g9; have K9 := hide k9; have G9 := hide g9; clear k9 g9))
        refine bodyPost_ret (results_cellB (vs := [.slice (some ⟨g1, 0, none⟩) ts.length p1, .slice (some ⟨g2, 0, none⟩) cs.length p2, .slice (some ⟨g3, 0, none⟩) ds.length p3, .int .i64 nh, .int .i64 nc, .int .i64 nd]) rfl Tryz.isAgg37 Tryz.sizeOf37 rfl (unhide K9) rfl) rfl ⟨_, rfl, ⟨_, _, _, _, _, _, _, _, _, _, _, _, rfl, fun h => by cases h⟩, mdG_of ((unhide B6).grown (unhide G9) (unhide B6).size (fun q hq => by have e : w.heap.size + 1 + 1 = q := Option.some.inj hq; omega)) hsz⟩
      · rw [hv] at eB
        subst eB
        clear eF hv
        have CN : Hid (∀ W, Calls Tryz.prog 69 #[.string n] W fun e w' => e = .returned (.bool true) ∧ w' = W) := hide (fun W => by have := l1Name_any n W hn; rw [r1] at this; exact this)
        go_wp2_with fail
        refine (unhide CN _).mono ?_
        rintro e w' ⟨rfl, hw⟩
        subst w'
        go_wp2_with fail
        refine (l1In_is _ _ _ _ r2).mono ?_
        rintro e w' ⟨rfl, hw⟩
        subst w'
        go_wp2_with (((with_reducible show wpList _ _ _ (⟨none, .store 37 _ _, _, _, _, none⟩ :: _) _ _); refine at_storeAgg (us := [.slice none 0 0, .slice none 0 0, .slice none 0 0, .int .i64 0, .int .i64 0, .int .i64 0]) (vs := [.slice (some ⟨g1, 0, none⟩) ts.length p1, .slice (some ⟨g2, 0, none⟩) cs.length p2, .slice (some ⟨g3, 0, none⟩) ds.length p3, .int .i64 nh, .int .i64 nc, .int .i64 nd]) Tryz.sizeOf37 rfl rfl (unhide KR6) rfl (fun v hv => by simp at hv; rcases hv with rfl | rfl | rfl | rfl | rfl | rfl <;> rfl) ?_; intro w9 k9 g9; have K9 := hide k9; have G9 := hide g9; clear k9 g9))
        refine bodyPost_ret (results_cellB (vs := [.slice (some ⟨g1, 0, none⟩) ts.length p1, .slice (some ⟨g2, 0, none⟩) cs.length p2, .slice (some ⟨g3, 0, none⟩) ds.length p3, .int .i64 nh, .int .i64 nc, .int .i64 nd]) rfl Tryz.isAgg37 Tryz.sizeOf37 rfl (unhide K9) rfl) rfl ⟨_, rfl, ⟨_, _, _, _, _, _, _, _, _, _, _, _, rfl, fun h => by cases h⟩, mdG_of ((unhide B6).grown (unhide G9) (unhide B6).size (fun q hq => by have e : w.heap.size + 1 + 1 = q := Option.some.inj hq; omega)) hsz⟩
      · rw [hv] at eB
        subst eB
        clear eF hv
        have r4 : ¬ (ds.length : Int) < 20 := by have := of_decide_eq_false r3; omega
        clear r3
        have CN : Hid (∀ W, Calls Tryz.prog 69 #[.string n] W fun e w' => e = .returned (.bool true) ∧ w' = W) := hide (fun W => by have := l1Name_any n W hn; rw [r1] at this; exact this)
        go_wp2_with fail
        refine (unhide CN _).mono ?_
        rintro e w' ⟨rfl, hw⟩
        subst w'
        go_wp2_with fail
        refine (l1In_is _ _ _ _ r2).mono ?_
        rintro e w' ⟨rfl, hw⟩
        subst w'
        go_wp2_with (((with_reducible show wpList _ _ _ (⟨none, .store 37 _ _, _, _, _, none⟩ :: _) _ _); refine at_storeAgg (us := [.slice none 0 0, .slice none 0 0, .slice none 0 0, .int .i64 0, .int .i64 0, .int .i64 0]) (vs := [.slice (some ⟨g1, 0, none⟩) ts.length p1, .slice (some ⟨g2, 0, none⟩) cs.length p2, .slice (some ⟨g3, 0, none⟩) ds.length p3, .int .i64 nh, .int .i64 nc, .int .i64 nd]) Tryz.sizeOf37 rfl rfl (unhide KR6) rfl (fun v hv => by simp at hv; rcases hv with rfl | rfl | rfl | rfl | rfl | rfl <;> rfl) ?_; intro w9 k9 g9; have K9 := hide k9; have G9 := hide g9; clear k9 g9))
        refine bodyPost_ret (results_cellB (vs := [.slice (some ⟨g1, 0, none⟩) ts.length p1, .slice (some ⟨g2, 0, none⟩) cs.length p2, .slice (some ⟨g3, 0, none⟩) ds.length p3, .int .i64 nh, .int .i64 nc, .int .i64 nd]) rfl Tryz.isAgg37 Tryz.sizeOf37 rfl (unhide K9) rfl) rfl ⟨_, rfl, ⟨_, _, _, _, _, _, _, _, _, _, _, _, rfl, fun h => by cases h⟩, mdG_of ((unhide B6).grown (unhide G9) (unhide B6).size (fun q hq => by have e : w.heap.size + 1 + 1 = q := Option.some.inj hq; omega)) hsz⟩
      · rw [hv] at eB eF
        subst eB
        have EF := hide (eF rfl)
        clear eF hv
        have r4 : (ds.length : Int) < 20 := by have := of_decide_eq_true r3; omega
        clear r3
        try (have e9 : (X == i) = false := by have h9 := of_decide_eq_false e2; simpa using h9)
        have CN : Hid (∀ W, Calls Tryz.prog 69 #[.string n] W fun e w' => e = .returned (.bool true) ∧ w' = W) := hide (fun W => by have := l1Name_any n W hn; rw [r1] at this; exact this)
        go_wp2_with fail
        refine (unhide CN _).mono ?_
        rintro e w' ⟨rfl, hw⟩
        subst w'
        go_wp2_with fail
        refine (l1In_is _ _ _ _ r2).mono ?_
        rintro e w' ⟨rfl, hw⟩
        subst w'
        have hcp : ds.length ≤ p3 := by obtain ⟨a, c, e, h, _⟩ := (unhide HO).o3.slice; simp only [Value.slice.injEq] at e; omega
        have RT : Hid (∀ V, Below w.heap.size w V → RowE 3 dfC V (some ⟨g3, 0, none⟩) k (ds.take k)) := hide (fun V b => ((unhide HO).o3.below b).row.takeN (by omega))
        have HL5 : Hid ((ds.take k).length = k) := hide (by simp; omega)
        obtain ⟨M, hM⟩ : ∃ x, (([(⟨n, i, nd⟩ : Df)] : List Df) ++ ds.drop k).length = x := ⟨_, rfl⟩
        obtain ⟨Q, hQ⟩ : ∃ x, (ds.take k ++ ((⟨n, i, nd⟩ : Df) :: ds.drop k)).length = x := ⟨_, rfl⟩
        have HLM : Hid (((⟨n, i, nd⟩ : Df) :: ds.drop k).length = M) := hide hM
        have HLQ := hide hQ
        have hM40 : M ≤ 40 := by rw [← hM]; simp; omega
        clear hM hQ
        go_upto_region 30 with fail
        clear y0 y1 y2 y3 q0 q1 q2 q3 q4 q5 r4
        have HS1 : Hid (k ≤ p3 ∧ (0 : Int) ≤ (k : Int) ∧ (k : Int) ≤ (p3 : Int) ∧ (k : Int) ≤ (ds.length : Int)) := hide (by omega)
        have HS3 : Hid (k ≤ ds.length ∧ k ≤ p3 ∧ (0 : Int) ≤ (k : Int) ∧ (k : Int) ≤ (ds.length : Int)) := hide (by omega)
        have HS6 : Hid ((ds.length : Int) ≤ (p3 : Int)) := hide (by omega)
        by_cases hcj : p3 = k
        · first
            | (exfalso; omega)
            | (subst hcj
               have HS5 : Hid (ds.length - p3 = 0) := hide (by omega)
               have RD : Hid (∀ V, Below w.heap.size w V → RowE 3 dfC V (some ⟨g3, 0, none⟩) 0 (ds.drop p3)) := hide (fun V b => by rw [List.drop_eq_nil_of_le (by omega)]; exact ⟨rfl, by omega, fun i hi => by omega⟩)
               refine wp_region_flagsA (by kernel_rfl) (by kernel_rfl) (MfRJ w g1 p1 g2 p2 g3 p3 ts cs ds nh nc nd n i m p3 M (some ⟨g3, 0, none⟩) 0 0) ?_ ?_ ?_
               · exact MfRJ.mk (v0 := undef) (v1 := undef) (v2 := undef) (v3 := undef) (v4 := undef) (v5 := undef) (v6 := undef) (v7 := undef) (v8 := undef) (v9 := undef) (v10 := undef) (v11 := undef) (v12 := undef) (v13 := undef) (v14 := undef) ⟨((unhide B6).trans (bel0d' 1)), ((unhide KF6).below (bel0d 1)), ((unhide KD6).below (bel0d 1)), ((unhide KR6).below (bel0d 1)), (fun h => by cases h), (fun h => by cases h), (fun h => by cases h), (fun h => by cases h), (fun h => by cases h), (fun h => by cases h), (fun h => by cases h), (fun h => by cases h), (fun h => by cases h), (fun h => by cases h), (fun h => by cases h), (fun h => by cases h), (fun h => by cases h), (fun h => by cases h), (fun h => by cases h), (fun h => by cases h)⟩ (by kernel_rfl)
               rotate_left 1
               · rintro l a V x o ho hl hd ⟨v0, v1, v2, v3, v4, v5, v6, v7, v8, v9, v10, v11, v12, v13, v14, rfl, K⟩
                 have hi : x < 15 := (Array.getElem?_eq_some_iff.1 ho).1
                 rcases (show x = 0 ∨ x = 1 ∨ x = 2 ∨ x = 3 ∨ x = 4 ∨ x = 5 ∨ x = 6 ∨ x = 7 ∨ x = 8 ∨ x = 9 ∨ x = 10 ∨ x = 11 ∨ x = 12 ∨ x = 13 ∨ x = 14 from by omega) with rfl | rfl | rfl | rfl | rfl | rfl | rfl | rfl | rfl | rfl | rfl | rfl | rfl | rfl | rfl
                 · simp at ho
                   subst ho
                   have HK : Hid (MfR w g1 p1 g2 p2 g3 p3 ts cs ds nh nc nd n i m p3 M (some ⟨g3, 0, none⟩) 0 0 true (l 1) (l 2) (l 3) (l 4) (l 5) (l 6) (l 7) (l 8) (l 9) (l 10) (l 11) (l 12) (l 13) (l 14) (.pointer (some ⟨w.heap.size + 1, 1, none⟩)) v1 v2 v3 v4 v5 v6 v7 v8 v9 v10 v11 v12 v13 v14 V) := hide ⟨(K.bel), (K.kf), (K.kd), (K.kr), (fun _ => rfl), (K.e1), (K.e2), (K.e3), (K.e4), (K.e5), (K.e6), (K.e7), (K.e9), (K.e10), (K.e11), (K.e12), (K.a8), (K.a13), (K.c13_8), (K.c14_13)⟩
                   clear K hd hl
                   go_wp2_with fail
                   exact ⟨rfl, MfRJ.mk (unhide HK) (by kernel_rfl)⟩
                 · simp at ho
                   subst ho
                   have d0 : l 0 = true := hd ⟨0, .data⟩ (by simp) rfl
                   have x0 := K.e0 d0
                   subst x0
                   have yy : V.cell? ⟨w.heap.size + 1, 1, none⟩ = some (.string n) := K.kd.c 1 (by simp)
                   have HK : Hid (MfR w g1 p1 g2 p2 g3 p3 ts cs ds nh nc nd n i m p3 M (some ⟨g3, 0, none⟩) 0 0 (l 0) true (l 2) (l 3) (l 4) (l 5) (l 6) (l 7) (l 8) (l 9) (l 10) (l 11) (l 12) (l 13) (l 14) (.pointer (some ⟨w.heap.size + 1, 1, none⟩)) (.string n) v2 v3 v4 v5 v6 v7 v8 v9 v10 v11 v12 v13 v14 V) := hide ⟨(K.bel), (K.kf), (K.kd), (K.kr), (K.e0), (fun _ => rfl), (K.e2), (K.e3), (K.e4), (K.e5), (K.e6), (K.e7), (K.e9), (K.e10), (K.e11), (K.e12), (K.a8), (K.a13), (K.c13_8), (K.c14_13)⟩
                   clear K hd hl
                   go_wp2_with fail
                   exact ⟨rfl, MfRJ.mk (unhide HK) (by kernel_rfl)⟩
                 · simp at ho
                   subst ho
                   have HK : Hid (MfR w g1 p1 g2 p2 g3 p3 ts cs ds nh nc nd n i m p3 M (some ⟨g3, 0, none⟩) 0 0 (l 0) (l 1) true (l 3) (l 4) (l 5) (l 6) (l 7) (l 8) (l 9) (l 10) (l 11) (l 12) (l 13) (l 14) v0 v1 (.pointer (some ⟨w.heap.size + 1, 2, none⟩)) v3 v4 v5 v6 v7 v8 v9 v10 v11 v12 v13 v14 V) := hide ⟨(K.bel), (K.kf), (K.kd), (K.kr), (K.e0), (K.e1), (fun _ => rfl), (K.e3), (K.e4), (K.e5), (K.e6), (K.e7), (K.e9), (K.e10), (K.e11), (K.e12), (K.a8), (K.a13), (K.c13_8), (K.c14_13)⟩
                   clear K hd hl
                   go_wp2_with fail
                   exact ⟨rfl, MfRJ.mk (unhide HK) (by kernel_rfl)⟩
                 · simp at ho
                   subst ho
                   have d2 : l 2 = true := hd ⟨2, .data⟩ (by simp) rfl
                   have x2 := K.e2 d2
                   subst x2
                   have yy : V.cell? ⟨w.heap.size + 1, 2, none⟩ = some (.int .i64 i) := K.kd.c 2 (by simp)
                   have HK : Hid (MfR w g1 p1 g2 p2 g3 p3 ts cs ds nh nc nd n i m p3 M (some ⟨g3, 0, none⟩) 0 0 (l 0) (l 1) (l 2) true (l 4) (l 5) (l 6) (l 7) (l 8) (l 9) (l 10) (l 11) (l 12) (l 13) (l 14) v0 v1 (.pointer (some ⟨w.heap.size + 1, 2, none⟩)) (.int .i64 i) v4 v5 v6 v7 v8 v9 v10 v11 v12 v13 v14 V) := hide ⟨(K.bel), (K.kf), (K.kd), (K.kr), (K.e0), (K.e1), (K.e2), (fun _ => rfl), (K.e4), (K.e5), (K.e6), (K.e7), (K.e9), (K.e10), (K.e11), (K.e12), (K.a8), (K.a13), (K.c13_8), (K.c14_13)⟩
                   clear K hd hl
                   go_wp2_with fail
                   exact ⟨rfl, MfRJ.mk (unhide HK) (by kernel_rfl)⟩
                 · simp at ho
                   subst ho
                   have HK : Hid (MfR w g1 p1 g2 p2 g3 p3 ts cs ds nh nc nd n i m p3 M (some ⟨g3, 0, none⟩) 0 0 (l 0) (l 1) (l 2) (l 3) true (l 5) (l 6) (l 7) (l 8) (l 9) (l 10) (l 11) (l 12) (l 13) (l 14) v0 v1 v2 v3 (.pointer (some ⟨w.heap.size, 3, none⟩)) v5 v6 v7 v8 v9 v10 v11 v12 v13 v14 V) := hide ⟨(K.bel), (K.kf), (K.kd), (K.kr), (K.e0), (K.e1), (K.e2), (K.e3), (fun _ => rfl), (K.e5), (K.e6), (K.e7), (K.e9), (K.e10), (K.e11), (K.e12), (K.a8), (K.a13), (K.c13_8), (K.c14_13)⟩
                   clear K hd hl
                   go_wp2_with fail
                   exact ⟨rfl, MfRJ.mk (unhide HK) (by kernel_rfl)⟩
                 · simp at ho
                   subst ho
                   have d4 : l 4 = true := hd ⟨4, .data⟩ (by simp) rfl
                   have x4 := K.e4 d4
                   subst x4
                   have HK : Hid (MfR w g1 p1 g2 p2 g3 p3 ts cs ds nh nc nd n i m p3 M (some ⟨g3, 0, none⟩) 0 0 (l 0) (l 1) (l 2) (l 3) (l 4) true (l 6) (l 7) (l 8) (l 9) (l 10) (l 11) (l 12) (l 13) (l 14) v0 v1 v2 v3 (.pointer (some ⟨w.heap.size, 3, none⟩)) (.pointer (some ⟨w.heap.size, 5, none⟩)) v6 v7 v8 v9 v10 v11 v12 v13 v14 V) := hide ⟨(K.bel), (K.kf), (K.kd), (K.kr), (K.e0), (K.e1), (K.e2), (K.e3), (K.e4), (fun _ => rfl), (K.e6), (K.e7), (K.e9), (K.e10), (K.e11), (K.e12), (K.a8), (K.a13), (K.c13_8), (K.c14_13)⟩
                   clear K hd hl
                   go_wp2_with fail
                   exact ⟨rfl, MfRJ.mk (unhide HK) (by kernel_rfl)⟩
                 · simp at ho
                   subst ho
                   have d5 : l 5 = true := hd ⟨5, .data⟩ (by simp) rfl
                   have x5 := K.e5 d5
                   subst x5
                   have yy : V.cell? ⟨w.heap.size, 5, none⟩ = some (.int .i64 nd) := K.kf.c 5 (by simp)
                   have HK : Hid (MfR w g1 p1 g2 p2 g3 p3 ts cs ds nh nc nd n i m p3 M (some ⟨g3, 0, none⟩) 0 0 (l 0) (l 1) (l 2) (l 3) (l 4) (l 5) true (l 7) (l 8) (l 9) (l 10) (l 11) (l 12) (l 13) (l 14) v0 v1 v2 v3 v4 (.pointer (some ⟨w.heap.size, 5, none⟩)) (.int .i64 nd) v7 v8 v9 v10 v11 v12 v13 v14 V) := hide ⟨(K.bel), (K.kf), (K.kd), (K.kr), (K.e0), (K.e1), (K.e2), (K.e3), (K.e4), (K.e5), (fun _ => rfl), (K.e7), (K.e9), (K.e10), (K.e11), (K.e12), (K.a8), (K.a13), (K.c13_8), (K.c14_13)⟩
                   clear K hd hl
                   go_wp2_with fail
                   exact ⟨rfl, MfRJ.mk (unhide HK) (by kernel_rfl)⟩
                 · simp at ho
                   subst ho
                   have d1 : l 1 = true := hd ⟨1, .data⟩ (by simp) rfl
                   have x1 := K.e1 d1
                   subst x1
                   have d3 : l 3 = true := hd ⟨3, .data⟩ (by simp) rfl
                   have x3 := K.e3 d3
                   subst x3
                   have d6 : l 6 = true := hd ⟨6, .data⟩ (by simp) rfl
                   have x6 := K.e6 d6
                   subst x6
                   have HK : Hid (MfR w g1 p1 g2 p2 g3 p3 ts cs ds nh nc nd n i m p3 M (some ⟨g3, 0, none⟩) 0 0 (l 0) (l 1) (l 2) (l 3) (l 4) (l 5) (l 6) true (l 8) (l 9) (l 10) (l 11) (l 12) (l 13) (l 14) v0 (.string n) v2 (.int .i64 i) v4 v5 (.int .i64 nd) (.agg #[.string n, .int .i64 i, .int .i64 nd]) v8 v9 v10 v11 v12 v13 v14 V) := hide ⟨(K.bel), (K.kf), (K.kd), (K.kr), (K.e0), (K.e1), (K.e2), (K.e3), (K.e4), (K.e5), (K.e6), (fun _ => rfl), (K.e9), (K.e10), (K.e11), (K.e12), (K.a8), (K.a13), (K.c13_8), (K.c14_13)⟩
                   clear K hd hl
                   go_wp2_with fail
                   exact ⟨rfl, MfRJ.mk (unhide HK) (by kernel_rfl)⟩
                 · simp at ho
                   subst ho
                   have d7 : l 7 = true := hd ⟨7, .data⟩ (by simp) rfl
                   have x7 := K.e7 d7
                   subst x7
                   have n13 : l 13 = false := by cases c : l 13; rfl; have z := K.c13_8 c; rw [hl] at z; cases z
                   have s9 := K.kr.lt
                   have HK : Hid (MfR w g1 p1 g2 p2 g3 p3 ts cs ds nh nc nd n i m p3 M (some ⟨g3, 0, none⟩) 0 0 (l 0) (l 1) (l 2) (l 3) (l 4) (l 5) (l 6) (l 7) true (l 9) (l 10) (l 11) (l 12) (l 13) (l 14) v0 v1 v2 v3 v4 v5 v6 (.agg #[.string n, .int .i64 i, .int .i64 nd]) (.slice (some ⟨V.heap.size, 0, none⟩) 1 1) v9 v10 v11 v12 v13 v14 (V.alloc (Obj.cells #[.string n, .int .i64 i, .int .i64 nd] 94))) := hide ⟨(K.bel.alloc K.bel.size _), (K.kf.alloc _), (K.kd.alloc _), (K.kr.alloc _), (K.e0), (K.e1), (K.e2), (K.e3), (K.e4), (K.e5), (K.e6), (K.e7), (K.e9), (K.e10), (K.e11), (K.e12), (fun _ _ => ⟨_, rfl, ownD_one (show w.heap.size + 3 ≤ V.heap.size from by omega)⟩), (fun h => by have h : l 13 = true := h; rw [n13] at h; cases h), (fun _ => rfl), (K.c14_13)⟩
                   clear K hd hl n13 s9
                   go_wp2_with fail
                   exact ⟨rfl, MfRJ.mk (unhide HK) (by kernel_rfl)⟩
                 · simp at ho
                   subst ho
                   have HK : Hid (MfR w g1 p1 g2 p2 g3 p3 ts cs ds nh nc nd n i m p3 M (some ⟨g3, 0, none⟩) 0 0 (l 0) (l 1) (l 2) (l 3) (l 4) (l 5) (l 6) (l 7) (l 8) true (l 10) (l 11) (l 12) (l 13) (l 14) v0 v1 v2 v3 v4 v5 v6 v7 v8 (.pointer (some ⟨w.heap.size, 2, none⟩)) v10 v11 v12 v13 v14 V) := hide ⟨(K.bel), (K.kf), (K.kd), (K.kr), (K.e0), (K.e1), (K.e2), (K.e3), (K.e4), (K.e5), (K.e6), (K.e7), (fun _ => rfl), (K.e10), (K.e11), (K.e12), (K.a8), (K.a13), (K.c13_8), (K.c14_13)⟩
                   clear K hd hl
                   go_wp2_with fail
                   exact ⟨rfl, MfRJ.mk (unhide HK) (by kernel_rfl)⟩
                 · simp at ho
                   subst ho
                   have d9 : l 9 = true := hd ⟨9, .data⟩ (by simp) rfl
                   have x9 := K.e9 d9
                   subst x9
                   have yy : V.cell? ⟨w.heap.size, 2, none⟩ = some (.slice (some ⟨g3, 0, none⟩) ds.length p3) := K.kf.c 2 (by simp)
                   have HK : Hid (MfR w g1 p1 g2 p2 g3 p3 ts cs ds nh nc nd n i m p3 M (some ⟨g3, 0, none⟩) 0 0 (l 0) (l 1) (l 2) (l 3) (l 4) (l 5) (l 6) (l 7) (l 8) (l 9) true (l 11) (l 12) (l 13) (l 14) v0 v1 v2 v3 v4 v5 v6 v7 v8 (.pointer (some ⟨w.heap.size, 2, none⟩)) (.slice (some ⟨g3, 0, none⟩) ds.length p3) v11 v12 v13 v14 V) := hide ⟨(K.bel), (K.kf), (K.kd), (K.kr), (K.e0), (K.e1), (K.e2), (K.e3), (K.e4), (K.e5), (K.e6), (K.e7), (K.e9), (fun _ => rfl), (K.e11), (K.e12), (K.a8), (K.a13), (K.c13_8), (K.c14_13)⟩
                   clear K hd hl
                   go_wp2_with fail
                   exact ⟨rfl, MfRJ.mk (unhide HK) (by kernel_rfl)⟩
                 · simp at ho
                   subst ho
                   have HK : Hid (MfR w g1 p1 g2 p2 g3 p3 ts cs ds nh nc nd n i m p3 M (some ⟨g3, 0, none⟩) 0 0 (l 0) (l 1) (l 2) (l 3) (l 4) (l 5) (l 6) (l 7) (l 8) (l 9) (l 10) true (l 12) (l 13) (l 14) v0 v1 v2 v3 v4 v5 v6 v7 v8 v9 v10 (.int .i64 (p3 : Int)) v12 v13 v14 V) := hide ⟨(K.bel), (K.kf), (K.kd), (K.kr), (K.e0), (K.e1), (K.e2), (K.e3), (K.e4), (K.e5), (K.e6), (K.e7), (K.e9), (K.e10), (fun _ => rfl), (K.e12), (K.a8), (K.a13), (K.c13_8), (K.c14_13)⟩
                   clear K hd hl
                   go_wp2_with fail
                   exact ⟨rfl, MfRJ.mk (unhide HK) (by kernel_rfl)⟩
                 · simp at ho
                   subst ho
                   have d10 : l 10 = true := hd ⟨10, .data⟩ (by simp) rfl
                   have x10 := K.e10 d10
                   subst x10
                   have d11 : l 11 = true := hd ⟨11, .data⟩ (by simp) rfl
                   have x11 := K.e11 d11
                   subst x11
                   obtain ⟨f1, f2, f2b, f2c⟩ := unhide HS1
                   obtain ⟨f3, f3b, f4, f4b⟩ := unhide HS3
                   have f5 := unhide HS5
                   have f6 := unhide HS6
                   have HK : Hid (MfR w g1 p1 g2 p2 g3 p3 ts cs ds nh nc nd n i m p3 M (some ⟨g3, 0, none⟩) 0 0 (l 0) (l 1) (l 2) (l 3) (l 4) (l 5) (l 6) (l 7) (l 8) (l 9) (l 10) (l 11) true (l 13) (l 14) v0 v1 v2 v3 v4 v5 v6 v7 v8 v9 (.slice (some ⟨g3, 0, none⟩) ds.length p3) (.int .i64 (p3 : Int)) (.slice (some ⟨g3, 0, none⟩) 0 0) v13 v14 V) := hide ⟨(K.bel), (K.kf), (K.kd), (K.kr), (K.e0), (K.e1), (K.e2), (K.e3), (K.e4), (K.e5), (K.e6), (K.e7), (K.e9), (K.e10), (K.e11), (fun _ => rfl), (K.a8), (K.a13), (K.c13_8), (K.c14_13)⟩
                   clear K hd hl
                   go_wp2_with fail
                   (try simp only [Nat.zero_add])
                   exact ⟨rfl, MfRJ.mk (unhide HK) (by kernel_rfl)⟩
                 · simp at ho
                   subst ho
                   have d8 : l 8 = true := hd ⟨8, .data⟩ (by simp) rfl
                   have d12 : l 12 = true := hd ⟨12, .data⟩ (by simp) rfl
                   have x12 := K.e12 d12
                   subst x12
                   obtain ⟨vb, xb, ob⟩ := K.a8 d8 hl
                   subst xb
                   have n14 : l 14 = false := by cases c : l 14; rfl; have z := K.c14_13 c; rw [hl] at z; cases z
                   have RS := hide ((unhide RD) V K.bel)
                   have OB := hide ob
                   have lb := (ob.lies vb rfl)
                   have s9 := K.kr.lt
                   have SZ : Hid (w.heap.size + 3 ≤ V.heap.size) := hide (by omega)
                   have HK0 := hide K
                   clear K hd ob
                   go_wp2_with (at_builtin; go_loud (refine wpList_app_elsM (K := 3) (cells := dfC) (by kernel_rfl) _ _ 34 94 rfl Tryz.underlying34 infoDf rfl (by decide) (by decide) dfCell1' (unhide OB) (by kernel_rfl) (some ⟨g3, 0, none⟩) 0 0 (ds.drop p3) (by kernel_rfl) (unhide RS) (by simp <;> omega) (unhide SZ) ?_; intro v9 w9 o9 gr9 nn9; have o9 : OwnE 3 dfC w9 (w.heap.size + 3) 94 (v9) ((⟨n, i, nd⟩ : Df) :: ds.drop p3) := o9; obtain ⟨g, c, rfl, hbg, hlg⟩ := fc_shape o9 nn9 (by simp); rw [unhide HLM] at o9; rw [unhide HLM]; have HK : Hid (MfR w g1 p1 g2 p2 g3 p3 ts cs ds nh nc nd n i m p3 M (some ⟨g3, 0, none⟩) 0 0 (l 0) (l 1) (l 2) (l 3) (l 4) (l 5) (l 6) (l 7) (l 8) (l 9) (l 10) (l 11) (l 12) true (l 14) v0 v1 v2 v3 v4 v5 v6 v7 (.slice (some ⟨vb, 0, none⟩) 1 1) v9 v10 v11 (.slice (some ⟨g3, 0, none⟩) 0 0) (.slice (some ⟨g, 0, none⟩) M c) v14 w9) := hide ⟨((unhide HK0).bel.grown gr9 (unhide HK0).bel.size (fun q hq => by have e : vb = q := Option.some.inj hq; omega)), ((unhide HK0).kf.apart gr9 (fun e => by have e : w.heap.size = vb := Option.some.inj e; omega)), ((unhide HK0).kd.apart gr9 (fun e => by have e : w.heap.size + 1 = vb := Option.some.inj e; omega)), ((unhide HK0).kr.apart gr9 (fun e => by have e : w.heap.size + 1 + 1 = vb := Option.some.inj e; omega)), ((unhide HK0).e0), ((unhide HK0).e1), ((unhide HK0).e2), ((unhide HK0).e3), ((unhide HK0).e4), ((unhide HK0).e5), ((unhide HK0).e6), ((unhide HK0).e7), ((unhide HK0).e9), ((unhide HK0).e10), ((unhide HK0).e11), ((unhide HK0).e12), (fun _ h => by cases h), (fun _ => ⟨g, c, rfl, (fun h => by have h : l 14 = true := h; rw [n14] at h; cases h), o9⟩), (fun _ => d8), (fun _ => rfl)⟩; clear o9 gr9 nn9 hbg hlg))
                   exact ⟨rfl, MfRJ.mk (unhide HK) (by kernel_rfl)⟩
                 · simp at ho
                   subst ho
                   have d13 : l 13 = true := hd ⟨13, .data⟩ (by simp) rfl
                   obtain ⟨g, c, xg, _, og⟩ := K.a13 d13
                   subst xg
                   have HK : Hid (MfR w g1 p1 g2 p2 g3 p3 ts cs ds nh nc nd n i m p3 M (some ⟨g3, 0, none⟩) 0 0 (l 0) (l 1) (l 2) (l 3) (l 4) (l 5) (l 6) (l 7) (l 8) (l 9) (l 10) (l 11) (l 12) (l 13) true v0 v1 v2 v3 v4 v5 v6 v7 v8 v9 v10 v11 v12 (.slice (some ⟨g, 0, none⟩) M c) (.slice (some ⟨g, 0, none⟩) M c) V) := hide ⟨(K.bel), (K.kf), (K.kd), (K.kr), (K.e0), (K.e1), (K.e2), (K.e3), (K.e4), (K.e5), (K.e6), (K.e7), (K.e9), (K.e10), (K.e11), (K.e12), (K.a8), (fun _ => ⟨g, c, rfl, fun _ => rfl, og⟩), (K.c13_8), (fun _ => d13)⟩
                   clear K hd hl og
                   go_wp2_with fail
                   exact ⟨rfl, MfRJ.mk (unhide HK) (by kernel_rfl)⟩
               rintro l a V7 hall ⟨v0, v1, v2, v3, v4, v5, v6, v7, v8, v9, v10, v11, v12, v13, v14, rfl, K⟩
               obtain ⟨g0, c0, xg, xh, og⟩ := K.a13 (hall 13 (by decide))
               have xh := xh (hall 14 (by decide))
               subst xg
               subst xh
               have OG := hide og
               have KF7 := hide K.kf
               have KR7 := hide K.kr
               have B7 := hide K.bel
               have lg0 := og.lies g0 rfl
               clear K hall og
               have s7 := (unhide KR7).lt
               have OB : Hid (OwnE 3 dfC (V7.alloc (Obj.cells #[] 94)) (w.heap.size + 3) 94 (.slice (some ⟨V7.heap.size, 0, none⟩) 0 0) []) := hide ((ownE_none (Nat.le_refl _)).mono (show w.heap.size + 3 ≤ V7.heap.size from by omega))
               have BA : Hid (Below w.heap.size w (V7.alloc (Obj.cells #[] 94))) := hide ((unhide B7).alloc (unhide B7).size _)
               have RS := hide ((unhide RT) _ (unhide BA))
               have SZ : Hid (w.heap.size + 3 ≤ (V7.alloc (Obj.cells #[] 94)).heap.size) := hide (by simp; omega)
               go_upto_region 31 with fail
               have q0 : (V7.alloc (Obj.cells #[] 94)).cell? ⟨w.heap.size, 0, none⟩ = some (.slice (some ⟨g1, 0, none⟩) ts.length p1) := ((unhide KF7).alloc (Obj.cells #[] 94)).c 0 (by simp)
               have q1 : (V7.alloc (Obj.cells #[] 94)).cell? ⟨w.heap.size, 1, none⟩ = some (.slice (some ⟨g2, 0, none⟩) cs.length p2) := ((unhide KF7).alloc (Obj.cells #[] 94)).c 1 (by simp)
               have q2 : (V7.alloc (Obj.cells #[] 94)).cell? ⟨w.heap.size, 2, none⟩ = some (.slice (some ⟨g3, 0, none⟩) ds.length p3) := ((unhide KF7).alloc (Obj.cells #[] 94)).c 2 (by simp)
               have q3 : (V7.alloc (Obj.cells #[] 94)).cell? ⟨w.heap.size, 3, none⟩ = some (.int .i64 nh) := ((unhide KF7).alloc (Obj.cells #[] 94)).c 3 (by simp)
               have q4 : (V7.alloc (Obj.cells #[] 94)).cell? ⟨w.heap.size, 4, none⟩ = some (.int .i64 nc) := ((unhide KF7).alloc (Obj.cells #[] 94)).c 4 (by simp)
               have q5 : (V7.alloc (Obj.cells #[] 94)).cell? ⟨w.heap.size, 5, none⟩ = some (.int .i64 nd) := ((unhide KF7).alloc (Obj.cells #[] 94)).c 5 (by simp)
               obtain ⟨f1, f2, f2b, f2c⟩ := unhide HS1
               go_upto_region 32 with (at_builtin; first | ((refine wpList_app_elsM (K := 3) (cells := dfC) (by kernel_rfl) _ _ 34 94 rfl Tryz.underlying34 infoDf rfl (by decide) (by decide) dfCell1' (unhide OB) (by kernel_rfl) (some ⟨g3, 0, none⟩) p3 p3 (ds.take p3) (by kernel_rfl) (unhide RS) (by simp <;> omega) (unhide SZ) ?_; intro v8 w8 o8 gr8 nn8; rw [List.nil_append] at o8; obtain ⟨g8, c8, rfl, hbg8, hlg8⟩ := fc_shape o8 nn8 (by simp); rw [unhide HL5] at o8; rw [unhide HL5]; have B8 := hide ((unhide BA).grown gr8 (unhide BA).size (fun q hq => by have e : V7.heap.size = q := Option.some.inj hq; omega)); have OB2 := hide o8; have RS2 := hide (((unhide OG).below (bel1 _)).far gr8 (fun q hq e => by have e1 : g0 = q := Option.some.inj hq; have e2 : q = V7.heap.size := Option.some.inj e; omega)).row; have KF8 := hide (((unhide KF7).alloc (Obj.cells #[] 94)).apart gr8 (fun e => by have e : w.heap.size = V7.heap.size := Option.some.inj e; omega)); have KR8 := hide (((unhide KR7).alloc (Obj.cells #[] 94)).apart gr8 (fun e => by have e : w.heap.size + 1 + 1 = V7.heap.size := Option.some.inj e; omega)); have SZ2 : Hid (w.heap.size + 3 ≤ w8.heap.size) := hide (by have h1 := (unhide KR8).lt; omega); clear o8 gr8 nn8 hlg8)) | ((refine wpList_app_elsM (K := 3) (cells := dfC) (by kernel_rfl) _ _ 34 94 rfl Tryz.underlying34 infoDf rfl (by decide) (by decide) dfCell1' (unhide OB2) (by kernel_rfl) (some ⟨g0, 0, none⟩) M c0 ((⟨n, i, nd⟩ : Df) :: ds.drop p3) (by kernel_rfl) (unhide RS2) (by simp <;> omega) (unhide SZ2) ?_; intro v9 w9 o9 gr9 nn9; obtain ⟨g, c, rfl, hbg, hlg⟩ := fc_shape o9 nn9 (by simp); rw [unhide HLQ] at o9; rw [unhide HLQ]; have B9 := hide ((unhide B8).grown gr9 (unhide B8).size (fun q hq => by have e : g8 = q := Option.some.inj hq; omega)); have O9 := hide o9; have KF9 := hide ((unhide KF8).apart gr9 (fun e => by have e : w.heap.size = g8 := Option.some.inj e; omega)); have KR9 := hide ((unhide KR8).apart gr9 (fun e => by have e : w.heap.size + 1 + 1 = g8 := Option.some.inj e; omega)); have yy : w9.cell? ⟨w.heap.size, 2, none⟩ = some (.slice (some ⟨g3, 0, none⟩) ds.length p3) := (unhide KF9).c 2 (by simp); have ff : w9.frozen? ⟨w.heap.size, 2, none⟩ = false := (unhide KF9).f 2 (by simp); clear o9 gr9 nn9 hlg)))
               obtain ⟨V10, hV⟩ : ∃ V, V = (w9.setCell ⟨w.heap.size, 2, none⟩ (.slice (some ⟨g, 0, none⟩) Q c)) := ⟨_, rfl⟩
               rw [← hV]
               have KF10 : Hid (Blk V10 (w.heap.size) [.slice (some ⟨g1, 0, none⟩) ts.length p1, .slice (some ⟨g2, 0, none⟩) cs.length p2, .slice (some ⟨g, 0, none⟩) Q c, .int .i64 nh, .int .i64 nc, .int .i64 nd]) := hide (by rw [hV]; exact (unhide KF9).set 2 (by simp) _)
               have KR10 : Hid (Blk V10 (w.heap.size + 1 + 1) [.slice none 0 0, .slice none 0 0, .slice none 0 0, .int .i64 0, .int .i64 0, .int .i64 0]) := hide (by rw [hV]; exact (unhide KR9).other (p := ⟨w.heap.size, 2, none⟩) (by show w.heap.size ≠ w.heap.size + 1 + 1; omega) _)
               have B10 : Hid (Below w.heap.size w V10) := hide (by rw [hV]; exact (unhide B9).setCell (p := ⟨w.heap.size, 2, none⟩) (Nat.le_refl _) _)
               have O10 : Hid (OwnE 3 dfC V10 (w.heap.size + 3) 94 (.slice (some ⟨g, 0, none⟩) Q c) (ds.take p3 ++ ((⟨n, i, nd⟩ : Df) :: ds.drop p3))) := hide (by rw [hV]; exact (unhide O9).set_other _ (by intro e; have e : g = w.heap.size := Option.some.inj e; omega))
               clear hV yy ff q0 q1 q2 q3 q4 q5
               have q0 : V10.cell? ⟨w.heap.size, 0, none⟩ = some (.slice (some ⟨g1, 0, none⟩) ts.length p1) := (unhide KF10).c 0 (by simp)
               have q1 : V10.cell? ⟨w.heap.size, 1, none⟩ = some (.slice (some ⟨g2, 0, none⟩) cs.length p2) := (unhide KF10).c 1 (by simp)
               have q2 : V10.cell? ⟨w.heap.size, 2, none⟩ = some (.slice (some ⟨g, 0, none⟩) Q c) := (unhide KF10).c 2 (by simp)
               have q3 : V10.cell? ⟨w.heap.size, 3, none⟩ = some (.int .i64 nh) := (unhide KF10).c 3 (by simp)
               have q4 : V10.cell? ⟨w.heap.size, 4, none⟩ = some (.int .i64 nc) := (unhide KF10).c 4 (by simp)
               have q5 : V10.cell? ⟨w.heap.size, 5, none⟩ = some (.int .i64 nd) := (unhide KF10).c 5 (by simp)
               go_wp2_with (((with_reducible show wpList _ _ _ (⟨none, .store 37 _ _, _, _, _, none⟩ :: _) _ _); refine at_storeAgg (us := [.slice none 0 0, .slice none 0 0, .slice none 0 0, .int .i64 0, .int .i64 0, .int .i64 0]) (vs := [.slice (some ⟨g1, 0, none⟩) ts.length p1, .slice (some ⟨g2, 0, none⟩) cs.length p2, .slice (some ⟨g, 0, none⟩) Q c, .int .i64 nh, .int .i64 nc, .int .i64 nd]) Tryz.sizeOf37 rfl rfl (unhide KR10) rfl (fun v hv => by simp at hv; rcases hv with rfl | rfl | rfl | rfl | rfl | rfl <;> rfl) ?_; intro w11 k9 g9; have K11 := hide k9; have G11 := hide g9; clear k9 g9))
               have lg := ((unhide O10).lies g rfl).1
               have B11 := (unhide B10).grown (unhide G11) (unhide B10).size (fun q hq => by have e : w.heap.size + 1 + 1 = q := Option.some.inj hq; omega)
               have O11 := (unhide O10).far (unhide G11) (fun q hq e => by have e1 : g = q := Option.some.inj hq; have e2 : q = w.heap.size + 1 + 1 := Option.some.inj e; omega)
               have o1 := (unhide HO).o1.below B11
               have o2 := (unhide HO).o2.below B11
               refine bodyPost_ret (results_cellB (vs := [.slice (some ⟨g1, 0, none⟩) ts.length p1, .slice (some ⟨g2, 0, none⟩) cs.length p2, .slice (some ⟨g, 0, none⟩) Q c, .int .i64 nh, .int .i64 nc, .int .i64 nd]) rfl Tryz.isAgg37 Tryz.sizeOf37 rfl (unhide K11) rfl) rfl ⟨_, rfl, ⟨_, _, _, _, _, _, _, _, _, _, _, _, rfl, fun _ => by rw [unhide EF]; exact ⟨⟨o1, o2, O11.mono (by omega), (unhide HO).p12, own_ne o1 O11 (by decide), own_ne o2 O11 (by decide)⟩, rfl, rfl, rfl⟩⟩, mdG_of B11 hsz⟩)
        · have HS5 : Hid (¬ (p3 = k)) := hide hcj
          have RD : Hid (∀ V, Below w.heap.size w V → RowE 3 dfC V (some ⟨g3, k * 3, none⟩) (ds.length - k) (ds.drop k)) := hide (fun V b => ((unhide HO).o3.below b).row.dropN (by omega))
          clear hcj
          refine wp_region_flagsA (by kernel_rfl) (by kernel_rfl) (MfRJ w g1 p1 g2 p2 g3 p3 ts cs ds nh nc nd n i m k M (some ⟨g3, k * 3, none⟩) (ds.length - k) (p3 - k)) ?_ ?_ ?_
          · exact MfRJ.mk (v0 := undef) (v1 := undef) (v2 := undef) (v3 := undef) (v4 := undef) (v5 := undef) (v6 := undef) (v7 := undef) (v8 := undef) (v9 := undef) (v10 := undef) (v11 := undef) (v12 := undef) (v13 := undef) (v14 := undef) ⟨((unhide B6).trans (bel0d' 1)), ((unhide KF6).below (bel0d 1)), ((unhide KD6).below (bel0d 1)), ((unhide KR6).below (bel0d 1)), (fun h => by cases h), (fun h => by cases h), (fun h => by cases h), (fun h => by cases h), (fun h => by cases h), (fun h => by cases h), (fun h => by cases h), (fun h => by cases h), (fun h => by cases h), (fun h => by cases h), (fun h => by cases h), (fun h => by cases h), (fun h => by cases h), (fun h => by cases h), (fun h => by cases h), (fun h => by cases h)⟩ (by kernel_rfl)
          rotate_left 1
          · rintro l a V x o ho hl hd ⟨v0, v1, v2, v3, v4, v5, v6, v7, v8, v9, v10, v11, v12, v13, v14, rfl, K⟩
            have hi : x < 15 := (Array.getElem?_eq_some_iff.1 ho).1
            rcases (show x = 0 ∨ x = 1 ∨ x = 2 ∨ x = 3 ∨ x = 4 ∨ x = 5 ∨ x = 6 ∨ x = 7 ∨ x = 8 ∨ x = 9 ∨ x = 10 ∨ x = 11 ∨ x = 12 ∨ x = 13 ∨ x = 14 from by omega) with rfl | rfl | rfl | rfl | rfl | rfl | rfl | rfl | rfl | rfl | rfl | rfl | rfl | rfl | rfl
            · simp at ho
              subst ho
              have HK : Hid (MfR w g1 p1 g2 p2 g3 p3 ts cs ds nh nc nd n i m k M (some ⟨g3, k * 3, none⟩) (ds.length - k) (p3 - k) true (l 1) (l 2) (l 3) (l 4) (l 5) (l 6) (l 7) (l 8) (l 9) (l 10) (l 11) (l 12) (l 13) (l 14) (.pointer (some ⟨w.heap.size + 1, 1, none⟩)) v1 v2 v3 v4 v5 v6 v7 v8 v9 v10 v11 v12 v13 v14 V) := hide ⟨(K.bel), (K.kf), (K.kd), (K.kr), (fun _ => rfl), (K.e1), (K.e2), (K.e3), (K.e4), (K.e5), (K.e6), (K.e7), (K.e9), (K.e10), (K.e11), (K.e12), (K.a8), (K.a13), (K.c13_8), (K.c14_13)⟩
              clear K hd hl
              go_wp2_with fail
              exact ⟨rfl, MfRJ.mk (unhide HK) (by kernel_rfl)⟩
            · simp at ho
              subst ho
              have d0 : l 0 = true := hd ⟨0, .data⟩ (by simp) rfl
              have x0 := K.e0 d0
              subst x0
              have yy : V.cell? ⟨w.heap.size + 1, 1, none⟩ = some (.string n) := K.kd.c 1 (by simp)
              have HK : Hid (MfR w g1 p1 g2 p2 g3 p3 ts cs ds nh nc nd n i m k M (some ⟨g3, k * 3, none⟩) (ds.length - k) (p3 - k) (l 0) true (l 2) (l 3) (l 4) (l 5) (l 6) (l 7) (l 8) (l 9) (l 10) (l 11) (l 12) (l 13) (l 14) (.pointer (some ⟨w.heap.size + 1, 1, none⟩)) (.string n) v2 v3 v4 v5 v6 v7 v8 v9 v10 v11 v12 v13 v14 V) := hide ⟨(K.bel), (K.kf), (K.kd), (K.kr), (K.e0), (fun _ => rfl), (K.e2), (K.e3), (K.e4), (K.e5), (K.e6), (K.e7), (K.e9), (K.e10), (K.e11), (K.e12), (K.a8), (K.a13), (K.c13_8), (K.c14_13)⟩
              clear K hd hl
              go_wp2_with fail
              exact ⟨rfl, MfRJ.mk (unhide HK) (by kernel_rfl)⟩
            · simp at ho
              subst ho
              have HK : Hid (MfR w g1 p1 g2 p2 g3 p3 ts cs ds nh nc nd n i m k M (some ⟨g3, k * 3, none⟩) (ds.length - k) (p3 - k) (l 0) (l 1) true (l 3) (l 4) (l 5) (l 6) (l 7) (l 8) (l 9) (l 10) (l 11) (l 12) (l 13) (l 14) v0 v1 (.pointer (some ⟨w.heap.size + 1, 2, none⟩)) v3 v4 v5 v6 v7 v8 v9 v10 v11 v12 v13 v14 V) := hide ⟨(K.bel), (K.kf), (K.kd), (K.kr), (K.e0), (K.e1), (fun _ => rfl), (K.e3), (K.e4), (K.e5), (K.e6), (K.e7), (K.e9), (K.e10), (K.e11), (K.e12), (K.a8), (K.a13), (K.c13_8), (K.c14_13)⟩
              clear K hd hl
              go_wp2_with fail
              exact ⟨rfl, MfRJ.mk (unhide HK) (by kernel_rfl)⟩
            · simp at ho
              subst ho
              have d2 : l 2 = true := hd ⟨2, .data⟩ (by simp) rfl
              have x2 := K.e2 d2
              subst x2
              have yy : V.cell? ⟨w.heap.size + 1, 2, none⟩ = some (.int .i64 i) := K.kd.c 2 (by simp)
              have HK : Hid (MfR w g1 p1 g2 p2 g3 p3 ts cs ds nh nc nd n i m k M (some ⟨g3, k * 3, none⟩) (ds.length - k) (p3 - k) (l 0) (l 1) (l 2) true (l 4) (l 5) (l 6) (l 7) (l 8) (l 9) (l 10) (l 11) (l 12) (l 13) (l 14) v0 v1 (.pointer (some ⟨w.heap.size + 1, 2, none⟩)) (.int .i64 i) v4 v5 v6 v7 v8 v9 v10 v11 v12 v13 v14 V) := hide ⟨(K.bel), (K.kf), (K.kd), (K.kr), (K.e0), (K.e1), (K.e2), (fun _ => rfl), (K.e4), (K.e5), (K.e6), (K.e7), (K.e9), (K.e10), (K.e11), (K.e12), (K.a8), (K.a13), (K.c13_8), (K.c14_13)⟩
              clear K hd hl
              go_wp2_with fail
              exact ⟨rfl, MfRJ.mk (unhide HK) (by kernel_rfl)⟩
            · simp at ho
              subst ho
              have HK : Hid (MfR w g1 p1 g2 p2 g3 p3 ts cs ds nh nc nd n i m k M (some ⟨g3, k * 3, none⟩) (ds.length - k) (p3 - k) (l 0) (l 1) (l 2) (l 3) true (l 5) (l 6) (l 7) (l 8) (l 9) (l 10) (l 11) (l 12) (l 13) (l 14) v0 v1 v2 v3 (.pointer (some ⟨w.heap.size, 3, none⟩)) v5 v6 v7 v8 v9 v10 v11 v12 v13 v14 V) := hide ⟨(K.bel), (K.kf), (K.kd), (K.kr), (K.e0), (K.e1), (K.e2), (K.e3), (fun _ => rfl), (K.e5), (K.e6), (K.e7), (K.e9), (K.e10), (K.e11), (K.e12), (K.a8), (K.a13), (K.c13_8), (K.c14_13)⟩
              clear K hd hl
              go_wp2_with fail
              exact ⟨rfl, MfRJ.mk (unhide HK) (by kernel_rfl)⟩
            · simp at ho
              subst ho
              have d4 : l 4 = true := hd ⟨4, .data⟩ (by simp) rfl
              have x4 := K.e4 d4
              subst x4
              have HK : Hid (MfR w g1 p1 g2 p2 g3 p3 ts cs ds nh nc nd n i m k M (some ⟨g3, k * 3, none⟩) (ds.length - k) (p3 - k) (l 0) (l 1) (l 2) (l 3) (l 4) true (l 6) (l 7) (l 8) (l 9) (l 10) (l 11) (l 12) (l 13) (l 14) v0 v1 v2 v3 (.pointer (some ⟨w.heap.size, 3, none⟩)) (.pointer (some ⟨w.heap.size, 5, none⟩)) v6 v7 v8 v9 v10 v11 v12 v13 v14 V) := hide ⟨(K.bel), (K.kf), (K.kd), (K.kr), (K.e0), (K.e1), (K.e2), (K.e3), (K.e4), (fun _ => rfl), (K.e6), (K.e7), (K.e9), (K.e10), (K.e11), (K.e12), (K.a8), (K.a13), (K.c13_8), (K.c14_13)⟩
              clear K hd hl
              go_wp2_with fail
              exact ⟨rfl, MfRJ.mk (unhide HK) (by kernel_rfl)⟩
            · simp at ho
              subst ho
              have d5 : l 5 = true := hd ⟨5, .data⟩ (by simp) rfl
              have x5 := K.e5 d5
              subst x5
              have yy : V.cell? ⟨w.heap.size, 5, none⟩ = some (.int .i64 nd) := K.kf.c 5 (by simp)
              have HK : Hid (MfR w g1 p1 g2 p2 g3 p3 ts cs ds nh nc nd n i m k M (some ⟨g3, k * 3, none⟩) (ds.length - k) (p3 - k) (l 0) (l 1) (l 2) (l 3) (l 4) (l 5) true (l 7) (l 8) (l 9) (l 10) (l 11) (l 12) (l 13) (l 14) v0 v1 v2 v3 v4 (.pointer (some ⟨w.heap.size, 5, none⟩)) (.int .i64 nd) v7 v8 v9 v10 v11 v12 v13 v14 V) := hide ⟨(K.bel), (K.kf), (K.kd), (K.kr), (K.e0), (K.e1), (K.e2), (K.e3), (K.e4), (K.e5), (fun _ => rfl), (K.e7), (K.e9), (K.e10), (K.e11), (K.e12), (K.a8), (K.a13), (K.c13_8), (K.c14_13)⟩
              clear K hd hl
              go_wp2_with fail
              exact ⟨rfl, MfRJ.mk (unhide HK) (by kernel_rfl)⟩
            · simp at ho
              subst ho
              have d1 : l 1 = true := hd ⟨1, .data⟩ (by simp) rfl
              have x1 := K.e1 d1
              subst x1
              have d3 : l 3 = true := hd ⟨3, .data⟩ (by simp) rfl
              have x3 := K.e3 d3
              subst x3
              have d6 : l 6 = true := hd ⟨6, .data⟩ (by simp) rfl
              have x6 := K.e6 d6
              subst x6
              have HK : Hid (MfR w g1 p1 g2 p2 g3 p3 ts cs ds nh nc nd n i m k M (some ⟨g3, k * 3, none⟩) (ds.length - k) (p3 - k) (l 0) (l 1) (l 2) (l 3) (l 4) (l 5) (l 6) true (l 8) (l 9) (l 10) (l 11) (l 12) (l 13) (l 14) v0 (.string n) v2 (.int .i64 i) v4 v5 (.int .i64 nd) (.agg #[.string n, .int .i64 i, .int .i64 nd]) v8 v9 v10 v11 v12 v13 v14 V) := hide ⟨(K.bel), (K.kf), (K.kd), (K.kr), (K.e0), (K.e1), (K.e2), (K.e3), (K.e4), (K.e5), (K.e6), (fun _ => rfl), (K.e9), (K.e10), (K.e11), (K.e12), (K.a8), (K.a13), (K.c13_8), (K.c14_13)⟩
              clear K hd hl
              go_wp2_with fail
              exact ⟨rfl, MfRJ.mk (unhide HK) (by kernel_rfl)⟩
            · simp at ho
              subst ho
              have d7 : l 7 = true := hd ⟨7, .data⟩ (by simp) rfl
              have x7 := K.e7 d7
              subst x7
              have n13 : l 13 = false := by cases c : l 13; rfl; have z := K.c13_8 c; rw [hl] at z; cases z
              have s9 := K.kr.lt
              have HK : Hid (MfR w g1 p1 g2 p2 g3 p3 ts cs ds nh nc nd n i m k M (some ⟨g3, k * 3, none⟩) (ds.length - k) (p3 - k) (l 0) (l 1) (l 2) (l 3) (l 4) (l 5) (l 6) (l 7) true (l 9) (l 10) (l 11) (l 12) (l 13) (l 14) v0 v1 v2 v3 v4 v5 v6 (.agg #[.string n, .int .i64 i, .int .i64 nd]) (.slice (some ⟨V.heap.size, 0, none⟩) 1 1) v9 v10 v11 v12 v13 v14 (V.alloc (Obj.cells #[.string n, .int .i64 i, .int .i64 nd] 94))) := hide ⟨(K.bel.alloc K.bel.size _), (K.kf.alloc _), (K.kd.alloc _), (K.kr.alloc _), (K.e0), (K.e1), (K.e2), (K.e3), (K.e4), (K.e5), (K.e6), (K.e7), (K.e9), (K.e10), (K.e11), (K.e12), (fun _ _ => ⟨_, rfl, ownD_one (show w.heap.size + 3 ≤ V.heap.size from by omega)⟩), (fun h => by have h : l 13 = true := h; rw [n13] at h; cases h), (fun _ => rfl), (K.c14_13)⟩
              clear K hd hl n13 s9
              go_wp2_with fail
              exact ⟨rfl, MfRJ.mk (unhide HK) (by kernel_rfl)⟩
            · simp at ho
              subst ho
              have HK : Hid (MfR w g1 p1 g2 p2 g3 p3 ts cs ds nh nc nd n i m k M (some ⟨g3, k * 3, none⟩) (ds.length - k) (p3 - k) (l 0) (l 1) (l 2) (l 3) (l 4) (l 5) (l 6) (l 7) (l 8) true (l 10) (l 11) (l 12) (l 13) (l 14) v0 v1 v2 v3 v4 v5 v6 v7 v8 (.pointer (some ⟨w.heap.size, 2, none⟩)) v10 v11 v12 v13 v14 V) := hide ⟨(K.bel), (K.kf), (K.kd), (K.kr), (K.e0), (K.e1), (K.e2), (K.e3), (K.e4), (K.e5), (K.e6), (K.e7), (fun _ => rfl), (K.e10), (K.e11), (K.e12), (K.a8), (K.a13), (K.c13_8), (K.c14_13)⟩
              clear K hd hl
              go_wp2_with fail
              exact ⟨rfl, MfRJ.mk (unhide HK) (by kernel_rfl)⟩
            · simp at ho
              subst ho
              have d9 : l 9 = true := hd ⟨9, .data⟩ (by simp) rfl
              have x9 := K.e9 d9
              subst x9
              have yy : V.cell? ⟨w.heap.size, 2, none⟩ = some (.slice (some ⟨g3, 0, none⟩) ds.length p3) := K.kf.c 2 (by simp)
              have HK : Hid (MfR w g1 p1 g2 p2 g3 p3 ts cs ds nh nc nd n i m k M (some ⟨g3, k * 3, none⟩) (ds.length - k) (p3 - k) (l 0) (l 1) (l 2) (l 3) (l 4) (l 5) (l 6) (l 7) (l 8) (l 9) true (l 11) (l 12) (l 13) (l 14) v0 v1 v2 v3 v4 v5 v6 v7 v8 (.pointer (some ⟨w.heap.size, 2, none⟩)) (.slice (some ⟨g3, 0, none⟩) ds.length p3) v11 v12 v13 v14 V) := hide ⟨(K.bel), (K.kf), (K.kd), (K.kr), (K.e0), (K.e1), (K.e2), (K.e3), (K.e4), (K.e5), (K.e6), (K.e7), (K.e9), (fun _ => rfl), (K.e11), (K.e12), (K.a8), (K.a13), (K.c13_8), (K.c14_13)⟩
              clear K hd hl
              go_wp2_with fail
              exact ⟨rfl, MfRJ.mk (unhide HK) (by kernel_rfl)⟩
            · simp at ho
              subst ho
              have HK : Hid (MfR w g1 p1 g2 p2 g3 p3 ts cs ds nh nc nd n i m k M (some ⟨g3, k * 3, none⟩) (ds.length - k) (p3 - k) (l 0) (l 1) (l 2) (l 3) (l 4) (l 5) (l 6) (l 7) (l 8) (l 9) (l 10) true (l 12) (l 13) (l 14) v0 v1 v2 v3 v4 v5 v6 v7 v8 v9 v10 (.int .i64 (k : Int)) v12 v13 v14 V) := hide ⟨(K.bel), (K.kf), (K.kd), (K.kr), (K.e0), (K.e1), (K.e2), (K.e3), (K.e4), (K.e5), (K.e6), (K.e7), (K.e9), (K.e10), (fun _ => rfl), (K.e12), (K.a8), (K.a13), (K.c13_8), (K.c14_13)⟩
              clear K hd hl
              go_wp2_with fail
              exact ⟨rfl, MfRJ.mk (unhide HK) (by kernel_rfl)⟩
            · simp at ho
              subst ho
              have d10 : l 10 = true := hd ⟨10, .data⟩ (by simp) rfl
              have x10 := K.e10 d10
              subst x10
              have d11 : l 11 = true := hd ⟨11, .data⟩ (by simp) rfl
              have x11 := K.e11 d11
              subst x11
              obtain ⟨f1, f2, f2b, f2c⟩ := unhide HS1
              obtain ⟨f3, f3b, f4, f4b⟩ := unhide HS3
              have f5 := unhide HS5
              have f6 := unhide HS6
              have HK : Hid (MfR w g1 p1 g2 p2 g3 p3 ts cs ds nh nc nd n i m k M (some ⟨g3, k * 3, none⟩) (ds.length - k) (p3 - k) (l 0) (l 1) (l 2) (l 3) (l 4) (l 5) (l 6) (l 7) (l 8) (l 9) (l 10) (l 11) true (l 13) (l 14) v0 v1 v2 v3 v4 v5 v6 v7 v8 v9 (.slice (some ⟨g3, 0, none⟩) ds.length p3) (.int .i64 (k : Int)) (.slice (some ⟨g3, k * 3, none⟩) (ds.length - k) (p3 - k)) v13 v14 V) := hide ⟨(K.bel), (K.kf), (K.kd), (K.kr), (K.e0), (K.e1), (K.e2), (K.e3), (K.e4), (K.e5), (K.e6), (K.e7), (K.e9), (K.e10), (K.e11), (fun _ => rfl), (K.a8), (K.a13), (K.c13_8), (K.c14_13)⟩
              clear K hd hl
              go_wp2_with fail
              (try simp only [Nat.zero_add])
              exact ⟨rfl, MfRJ.mk (unhide HK) (by kernel_rfl)⟩
            · simp at ho
              subst ho
              have d8 : l 8 = true := hd ⟨8, .data⟩ (by simp) rfl
              have d12 : l 12 = true := hd ⟨12, .data⟩ (by simp) rfl
              have x12 := K.e12 d12
              subst x12
              obtain ⟨vb, xb, ob⟩ := K.a8 d8 hl
              subst xb
              have n14 : l 14 = false := by cases c : l 14; rfl; have z := K.c14_13 c; rw [hl] at z; cases z
              have RS := hide ((unhide RD) V K.bel)
              have OB := hide ob
              have lb := (ob.lies vb rfl)
              have s9 := K.kr.lt
              have SZ : Hid (w.heap.size + 3 ≤ V.heap.size) := hide (by omega)
              have HK0 := hide K
              clear K hd ob
              go_wp2_with (at_builtin; go_loud (refine wpList_app_elsM (K := 3) (cells := dfC) (by kernel_rfl) _ _ 34 94 rfl Tryz.underlying34 infoDf rfl (by decide) (by decide) dfCell1' (unhide OB) (by kernel_rfl) (some ⟨g3, k * 3, none⟩) (ds.length - k) (p3 - k) (ds.drop k) (by kernel_rfl) (unhide RS) (by simp <;> omega) (unhide SZ) ?_; intro v9 w9 o9 gr9 nn9; have o9 : OwnE 3 dfC w9 (w.heap.size + 3) 94 (v9) ((⟨n, i, nd⟩ : Df) :: ds.drop k) := o9; obtain ⟨g, c, rfl, hbg, hlg⟩ := fc_shape o9 nn9 (by simp); rw [unhide HLM] at o9; rw [unhide HLM]; have HK : Hid (MfR w g1 p1 g2 p2 g3 p3 ts cs ds nh nc nd n i m k M (some ⟨g3, k * 3, none⟩) (ds.length - k) (p3 - k) (l 0) (l 1) (l 2) (l 3) (l 4) (l 5) (l 6) (l 7) (l 8) (l 9) (l 10) (l 11) (l 12) true (l 14) v0 v1 v2 v3 v4 v5 v6 v7 (.slice (some ⟨vb, 0, none⟩) 1 1) v9 v10 v11 (.slice (some ⟨g3, k * 3, none⟩) (ds.length - k) (p3 - k)) (.slice (some ⟨g, 0, none⟩) M c) v14 w9) := hide ⟨((unhide HK0).bel.grown gr9 (unhide HK0).bel.size (fun q hq => by have e : vb = q := Option.some.inj hq; omega)), ((unhide HK0).kf.apart gr9 (fun e => by have e : w.heap.size = vb := Option.some.inj e; omega)), ((unhide HK0).kd.apart gr9 (fun e => by have e : w.heap.size + 1 = vb := Option.some.inj e; omega)), ((unhide HK0).kr.apart gr9 (fun e => by have e : w.heap.size + 1 + 1 = vb := Option.some.inj e; omega)), ((unhide HK0).e0), ((unhide HK0).e1), ((unhide HK0).e2), ((unhide HK0).e3), ((unhide HK0).e4), ((unhide HK0).e5), ((unhide HK0).e6), ((unhide HK0).e7), ((unhide HK0).e9), ((unhide HK0).e10), ((unhide HK0).e11), ((unhide HK0).e12), (fun _ h => by cases h), (fun _ => ⟨g, c, rfl, (fun h => by have h : l 14 = true := h; rw [n14] at h; cases h), o9⟩), (fun _ => d8), (fun _ => rfl)⟩; clear o9 gr9 nn9 hbg hlg))
              exact ⟨rfl, MfRJ.mk (unhide HK) (by kernel_rfl)⟩
            · simp at ho
              subst ho
              have d13 : l 13 = true := hd ⟨13, .data⟩ (by simp) rfl
              obtain ⟨g, c, xg, _, og⟩ := K.a13 d13
              subst xg
              have HK : Hid (MfR w g1 p1 g2 p2 g3 p3 ts cs ds nh nc nd n i m k M (some ⟨g3, k * 3, none⟩) (ds.length - k) (p3 - k) (l 0) (l 1) (l 2) (l 3) (l 4) (l 5) (l 6) (l 7) (l 8) (l 9) (l 10) (l 11) (l 12) (l 13) true v0 v1 v2 v3 v4 v5 v6 v7 v8 v9 v10 v11 v12 (.slice (some ⟨g, 0, none⟩) M c) (.slice (some ⟨g, 0, none⟩) M c) V) := hide ⟨(K.bel), (K.kf), (K.kd), (K.kr), (K.e0), (K.e1), (K.e2), (K.e3), (K.e4), (K.e5), (K.e6), (K.e7), (K.e9), (K.e10), (K.e11), (K.e12), (K.a8), (fun _ => ⟨g, c, rfl, fun _ => rfl, og⟩), (K.c13_8), (fun _ => d13)⟩
              clear K hd hl og
              go_wp2_with fail
              exact ⟨rfl, MfRJ.mk (unhide HK) (by kernel_rfl)⟩
          rintro l a V7 hall ⟨v0, v1, v2, v3, v4, v5, v6, v7, v8, v9, v10, v11, v12, v13, v14, rfl, K⟩
          obtain ⟨g0, c0, xg, xh, og⟩ := K.a13 (hall 13 (by decide))
          have xh := xh (hall 14 (by decide))
          subst xg
          subst xh
          have OG := hide og
          have KF7 := hide K.kf
          have KR7 := hide K.kr
          have B7 := hide K.bel
          have lg0 := og.lies g0 rfl
          clear K hall og
          have s7 := (unhide KR7).lt
          have OB : Hid (OwnE 3 dfC (V7.alloc (Obj.cells #[] 94)) (w.heap.size + 3) 94 (.slice (some ⟨V7.heap.size, 0, none⟩) 0 0) []) := hide ((ownE_none (Nat.le_refl _)).mono (show w.heap.size + 3 ≤ V7.heap.size from by omega))
          have BA : Hid (Below w.heap.size w (V7.alloc (Obj.cells #[] 94))) := hide ((unhide B7).alloc (unhide B7).size _)
          have RS := hide ((unhide RT) _ (unhide BA))
          have SZ : Hid (w.heap.size + 3 ≤ (V7.alloc (Obj.cells #[] 94)).heap.size) := hide (by simp; omega)
          go_upto_region 31 with fail
          have q0 : (V7.alloc (Obj.cells #[] 94)).cell? ⟨w.heap.size, 0, none⟩ = some (.slice (some ⟨g1, 0, none⟩) ts.length p1) := ((unhide KF7).alloc (Obj.cells #[] 94)).c 0 (by simp)
          have q1 : (V7.alloc (Obj.cells #[] 94)).cell? ⟨w.heap.size, 1, none⟩ = some (.slice (some ⟨g2, 0, none⟩) cs.length p2) := ((unhide KF7).alloc (Obj.cells #[] 94)).c 1 (by simp)
          have q2 : (V7.alloc (Obj.cells #[] 94)).cell? ⟨w.heap.size, 2, none⟩ = some (.slice (some ⟨g3, 0, none⟩) ds.length p3) := ((unhide KF7).alloc (Obj.cells #[] 94)).c 2 (by simp)
          have q3 : (V7.alloc (Obj.cells #[] 94)).cell? ⟨w.heap.size, 3, none⟩ = some (.int .i64 nh) := ((unhide KF7).alloc (Obj.cells #[] 94)).c 3 (by simp)
          have q4 : (V7.alloc (Obj.cells #[] 94)).cell? ⟨w.heap.size, 4, none⟩ = some (.int .i64 nc) := ((unhide KF7).alloc (Obj.cells #[] 94)).c 4 (by simp)
          have q5 : (V7.alloc (Obj.cells #[] 94)).cell? ⟨w.heap.size, 5, none⟩ = some (.int .i64 nd) := ((unhide KF7).alloc (Obj.cells #[] 94)).c 5 (by simp)
          obtain ⟨f1, f2, f2b, f2c⟩ := unhide HS1
          go_upto_region 32 with (at_builtin; first | ((refine wpList_app_elsM (K := 3) (cells := dfC) (by kernel_rfl) _ _ 34 94 rfl Tryz.underlying34 infoDf rfl (by decide) (by decide) dfCell1' (unhide OB) (by kernel_rfl) (some ⟨g3, 0, none⟩) k p3 (ds.take k) (by kernel_rfl) (unhide RS) (by simp <;> omega) (unhide SZ) ?_; intro v8 w8 o8 gr8 nn8; rw [List.nil_append] at o8; obtain ⟨g8, c8, rfl, hbg8, hlg8⟩ := fc_shape o8 nn8 (by simp); rw [unhide HL5] at o8; rw [unhide HL5]; have B8 := hide ((unhide BA).grown gr8 (unhide BA).size (fun q hq => by have e : V7.heap.size = q := Option.some.inj hq; omega)); have OB2 := hide o8; have RS2 := hide (((unhide OG).below (bel1 _)).far gr8 (fun q hq e => by have e1 : g0 = q := Option.some.inj hq; have e2 : q = V7.heap.size := Option.some.inj e; omega)).row; have KF8 := hide (((unhide KF7).alloc (Obj.cells #[] 94)).apart gr8 (fun e => by have e : w.heap.size = V7.heap.size := Option.some.inj e; omega)); have KR8 := hide (((unhide KR7).alloc (Obj.cells #[] 94)).apart gr8 (fun e => by have e : w.heap.size + 1 + 1 = V7.heap.size := Option.some.inj e; omega)); have SZ2 : Hid (w.heap.size + 3 ≤ w8.heap.size) := hide (by have h1 := (unhide KR8).lt; omega); clear o8 gr8 nn8 hlg8)) | ((refine wpList_app_elsM (K := 3) (cells := dfC) (by kernel_rfl) _ _ 34 94 rfl Tryz.underlying34 infoDf rfl (by decide) (by decide) dfCell1' (unhide OB2) (by kernel_rfl) (some ⟨g0, 0, none⟩) M c0 ((⟨n, i, nd⟩ : Df) :: ds.drop k) (by kernel_rfl) (unhide RS2) (by simp <;> omega) (unhide SZ2) ?_; intro v9 w9 o9 gr9 nn9; obtain ⟨g, c, rfl, hbg, hlg⟩ := fc_shape o9 nn9 (by simp); rw [unhide HLQ] at o9; rw [unhide HLQ]; have B9 := hide ((unhide B8).grown gr9 (unhide B8).size (fun q hq => by have e : g8 = q := Option.some.inj hq; omega)); have O9 := hide o9; have KF9 := hide ((unhide KF8).apart gr9 (fun e => by have e : w.heap.size = g8 := Option.some.inj e; omega)); have KR9 := hide ((unhide KR8).apart gr9 (fun e => by have e : w.heap.size + 1 + 1 = g8 := Option.some.inj e; omega)); have yy : w9.cell? ⟨w.heap.size, 2, none⟩ = some (.slice (some ⟨g3, 0, none⟩) ds.length p3) := (unhide KF9).c 2 (by simp); have ff : w9.frozen? ⟨w.heap.size, 2, none⟩ = false := (unhide KF9).f 2 (by simp); clear o9 gr9 nn9 hlg)))
          obtain ⟨V10, hV⟩ : ∃ V, V = (w9.setCell ⟨w.heap.size, 2, none⟩ (.slice (some ⟨g, 0, none⟩) Q c)) := ⟨_, rfl⟩
          rw [← hV]
          have KF10 : Hid (Blk V10 (w.heap.size) [.slice (some ⟨g1, 0, none⟩) ts.length p1, .slice (some ⟨g2, 0, none⟩) cs.length p2, .slice (some ⟨g, 0, none⟩) Q c, .int .i64 nh, .int .i64 nc, .int .i64 nd]) := hide (by rw [hV]; exact (unhide KF9).set 2 (by simp) _)
          have KR10 : Hid (Blk V10 (w.heap.size + 1 + 1) [.slice none 0 0, .slice none 0 0, .slice none 0 0, .int .i64 0, .int .i64 0, .int .i64 0]) := hide (by rw [hV]; exact (unhide KR9).other (p := ⟨w.heap.size, 2, none⟩) (by show w.heap.size ≠ w.heap.size + 1 + 1; omega) _)
          have B10 : Hid (Below w.heap.size w V10) := hide (by rw [hV]; exact (unhide B9).setCell (p := ⟨w.heap.size, 2, none⟩) (Nat.le_refl _) _)
          have O10 : Hid (OwnE 3 dfC V10 (w.heap.size + 3) 94 (.slice (some ⟨g, 0, none⟩) Q c) (ds.take k ++ ((⟨n, i, nd⟩ : Df) :: ds.drop k))) := hide (by rw [hV]; exact (unhide O9).set_other _ (by intro e; have e : g = w.heap.size := Option.some.inj e; omega))
          clear hV yy ff q0 q1 q2 q3 q4 q5
          have q0 : V10.cell? ⟨w.heap.size, 0, none⟩ = some (.slice (some ⟨g1, 0, none⟩) ts.length p1) := (unhide KF10).c 0 (by simp)
          have q1 : V10.cell? ⟨w.heap.size, 1, none⟩ = some (.slice (some ⟨g2, 0, none⟩) cs.length p2) := (unhide KF10).c 1 (by simp)
          have q2 : V10.cell? ⟨w.heap.size, 2, none⟩ = some (.slice (some ⟨g, 0, none⟩) Q c) := (unhide KF10).c 2 (by simp)
          have q3 : V10.cell? ⟨w.heap.size, 3, none⟩ = some (.int .i64 nh) := (unhide KF10).c 3 (by simp)
          have q4 : V10.cell? ⟨w.heap.size, 4, none⟩ = some (.int .i64 nc) := (unhide KF10).c 4 (by simp)
          have q5 : V10.cell? ⟨w.heap.size, 5, none⟩ = some (.int .i64 nd) := (unhide KF10).c 5 (by simp)
          go_wp2_with (((with_reducible show wpList _ _ _ (⟨none, .store 37 _ _, _, _, _, none⟩ :: _) _ _); refine at_storeAgg (us := [.slice none 0 0, .slice none 0 0, .slice none 0 0, .int .i64 0, .int .i64 0, .int .i64 0]) (vs := [.slice (some ⟨g1, 0, none⟩) ts.length p1, .slice (some ⟨g2, 0, none⟩) cs.length p2, .slice (some ⟨g, 0, none⟩) Q c, .int .i64 nh, .int .i64 nc, .int .i64 nd]) Tryz.sizeOf37 rfl rfl (unhide KR10) rfl (fun v hv => by simp at hv; rcases hv with rfl | rfl | rfl | rfl | rfl | rfl <;> rfl) ?_; intro w11 k9 g9; have K11 := hide k9; have G11 := hide g9; clear k9 g9))
          have lg := ((unhide O10).lies g rfl).1
          have B11 := (unhide B10).grown (unhide G11) (unhide B10).size (fun q hq => by have e : w.heap.size + 1 + 1 = q := Option.some.inj hq; omega)
          have O11 := (unhide O10).far (unhide G11) (fun q hq e => by have e1 : g = q := Option.some.inj hq; have e2 : q = w.heap.size + 1 + 1 := Option.some.inj e; omega)
          have o1 := (unhide HO).o1.below B11
          have o2 := (unhide HO).o2.below B11
          refine bodyPost_ret (results_cellB (vs := [.slice (some ⟨g1, 0, none⟩) ts.length p1, .slice (some ⟨g2, 0, none⟩) cs.length p2, .slice (some ⟨g, 0, none⟩) Q c, .int .i64 nh, .int .i64 nc, .int .i64 nd]) rfl Tryz.isAgg37 Tryz.sizeOf37 rfl (unhide K11) rfl) rfl ⟨_, rfl, ⟨_, _, _, _, _, _, _, _, _, _, _, _, rfl, fun _ => by rw [unhide EF]; exact ⟨⟨o1, o2, O11.mono (by omega), (unhide HO).p12, own_ne o1 O11 (by decide), own_ne o2 O11 (by decide)⟩, rfl, rfl, rfl⟩⟩, mdG_of B11 hsz⟩

end Go.Proofs.YticdccdkjepifaaGreat
