/-
  What the model does with a deed: a task done. The fleet is so, it lies in memory of its own, its texts can be there.
-/
import Derived.Test.YticdccdkjepifaaGreatMdFly
namespace Go.Proofs.YticdccdkjepifaaGreat
open Go Go.RowKit

theorem FlOwn.task {w : World} {base g k : Nat} {a2 a3 : Option Addr} {c1 l2 c2 l3 c3 : Nat} {ts : List Ts} {cs : List Cr} {ds : List Df} {nh nc nd : Int} (h : FlOwn w base (some ⟨g, 0, none⟩) a2 a3 ts.length c1 l2 c2 l3 c3 ts cs ds) (hk : k < ts.length) :
    FlOwn (((w.setCell ⟨g, k * 7 + 4, none⟩ (.int .i64 nh)).setCell ⟨g, k * 7 + 5, none⟩ (.int .i64 nc)).setCell ⟨g, k * 7 + 6, none⟩ (.int .i64 nd)) base (some ⟨g, 0, none⟩) a2 a3 ts.length c1 l2 c2 l3 c3 (ts.set k ⟨(elAt ts k).nm, (elAt ts k).h, (elAt ts k).c, (elAt ts k).d, nh, nc, nd⟩) cs ds := by
  have o1 := h.o1.setOne rfl k hk 4 (by omega) (.int .i64 nh) ⟨(elAt ts k).nm, (elAt ts k).h, (elAt ts k).c, (elAt ts k).d, nh, (elAt ts k).dc, (elAt ts k).dd⟩ (by intro p hp; rcases (show p = 0 ∨ p = 1 ∨ p = 2 ∨ p = 3 ∨ p = 4 ∨ p = 5 ∨ p = 6 from by omega) with rfl | rfl | rfl | rfl | rfl | rfl | rfl <;> rfl)
  have o2 := o1.setMore rfl hk 5 (by omega) (.int .i64 nc) ⟨(elAt ts k).nm, (elAt ts k).h, (elAt ts k).c, (elAt ts k).d, nh, nc, (elAt ts k).dd⟩ (by intro p hp; rcases (show p = 0 ∨ p = 1 ∨ p = 2 ∨ p = 3 ∨ p = 4 ∨ p = 5 ∨ p = 6 from by omega) with rfl | rfl | rfl | rfl | rfl | rfl | rfl <;> rfl)
  have o3 := o2.setMore rfl hk 6 (by omega) (.int .i64 nd) ⟨(elAt ts k).nm, (elAt ts k).h, (elAt ts k).c, (elAt ts k).d, nh, nc, nd⟩ (by intro p hp; rcases (show p = 0 ∨ p = 1 ∨ p = 2 ∨ p = 3 ∨ p = 4 ∨ p = 5 ∨ p = 6 from by omega) with rfl | rfl | rfl | rfl | rfl | rfl | rfl <;> rfl)
  have n2 : (Value.slice a2 l2 c2).ownBlock ≠ some g := h.p12 g rfl
  have n3 : (Value.slice a3 l3 c3).ownBlock ≠ some g := h.p13 g rfl
  exact ⟨o3, ((h.o2.set_other _ n2).set_other _ n2).set_other _ n2, ((h.o3.set_other _ n3).set_other _ n3).set_other _ n3, h.p12, h.p13, h.p23⟩
set_option maxRecDepth 20000 in
set_option maxHeartbeats 4000000 in
theorem md_2 (base g1 p1 g2 p2 g3 p3 : Nat) (ts : List Ts) (cs : List Cr) (ds : List Df) (nh nc nd : Int) (n : ByteArray) (i m : Int) (w : World) (ho : FlOwn w base (some ⟨g1, 0, none⟩) (some ⟨g2, 0, none⟩) (some ⟨g3, 0, none⟩) ts.length p1 cs.length p2 ds.length p3 ts cs ds) (ff : FitF ⟨ts, cs, ds, nh, nc, nd⟩) (hf : flB ⟨ts, cs, ds, nh, nc, nd⟩ = true) :
    Calls Tryz.prog 49 #[.agg #[.slice (some ⟨g1, 0, none⟩) ts.length p1, .slice (some ⟨g2, 0, none⟩) cs.length p2, .slice (some ⟨g3, 0, none⟩) ds.length p3, .int .i64 nh, .int .i64 nc, .int .i64 nd], .agg #[.int .i64 2, .string n, .int .i64 i, .int .i64 m]] w fun e w' => ∃ v, e = .returned (.tuple #[v, .bool (dwB ⟨ts, cs, ds, nh, nc, nd⟩ ⟨2, n, i, m⟩)]) ∧ MdO w' base v (dwF ⟨ts, cs, ds, nh, nc, nd⟩ ⟨2, n, i, m⟩) (dwB ⟨ts, cs, ds, nh, nc, nd⟩ ⟨2, n, i, m⟩) ∧ MdG base g1 w w' := by
  have E1 : Hid (∀ k, k < ts.length → (elAt ts k).nm = n → (∀ j, j < k → ¬ (elAt ts j).nm = n) → dwB ⟨ts, cs, ds, nh, nc, nd⟩ ⟨2, n, i, m⟩ = true ∧ dwF ⟨ts, cs, ds, nh, nc, nd⟩ ⟨2, n, i, m⟩ = ⟨ts.set k ⟨(elAt ts k).nm, (elAt ts k).h, (elAt ts k).c, (elAt ts k).d, nh, nc, nd⟩, cs, ds, nh, nc, nd⟩) := hide (fun k hk e hj => by
    have h1 : ixE (qTs n) ts = (k : Int) := ixE_at hk (by simp [qTs, e]) (fun j hj' => by simpa [qTs] using hj j hj')
    rw [(dw2 hf).1, (dw2 hf).2]
    simp [h1, dnT])
  have E2 : Hid ((∀ j, j < ts.length → ¬ (elAt ts j).nm = n) → dwB ⟨ts, cs, ds, nh, nc, nd⟩ ⟨2, n, i, m⟩ = false) := hide (fun h => by
    have h1 : ixE (qTs n) ts = -1 := ixE_none (fun j hj => by simpa [qTs] using h j hj)
    rw [(dw2 hf).1]
    simp [h1])
  obtain ⟨f', hf'⟩ : ∃ x, dwF ⟨ts, cs, ds, nh, nc, nd⟩ ⟨2, n, i, m⟩ = x := ⟨_, rfl⟩
  obtain ⟨B, hB⟩ : ∃ x, dwB ⟨ts, cs, ds, nh, nc, nd⟩ ⟨2, n, i, m⟩ = x := ⟨_, rfl⟩
  rw [hf', hB]
  rw [hB] at E2
  simp only [hf', hB] at E1
  clear hf' hB
  have hl : ts.length ≤ 1000000 := by obtain ⟨_, _, f3, _⟩ := flB_facts hf; obtain ⟨k2, _, _⟩ := listS_facts f3; simp only at k2; omega
  have hsz : base ≤ w.heap.size := by have := ho.o1.lies g1 rfl; omega
  obtain ⟨V0, hV0⟩ : ∃ V, V = ((w.alloc (Obj.cells #[.slice (some ⟨g1, 0, none⟩) ts.length p1, .slice (some ⟨g2, 0, none⟩) cs.length p2, .slice (some ⟨g3, 0, none⟩) ds.length p3, .int .i64 nh, .int .i64 nc, .int .i64 nd] 37)).alloc (Obj.cells #[.int .i64 2, .string n, .int .i64 i, .int .i64 m] 60)).alloc (Obj.cells #[.slice none 0 0, .slice none 0 0, .slice none 0 0, .int .i64 0, .int .i64 0, .int .i64 0] 37) := ⟨_, rfl⟩
  have bV : Below w.heap.size w V0 := by rw [hV0]; exact bel3 _ _ _
  have KF0 : Hid (Blk V0 (w.heap.size) [.slice (some ⟨g1, 0, none⟩) ts.length p1, .slice (some ⟨g2, 0, none⟩) cs.length p2, .slice (some ⟨g3, 0, none⟩) ds.length p3, .int .i64 nh, .int .i64 nc, .int .i64 nd]) := hide (by rw [hV0]; exact blkAt3_0)
  have KD0 : Hid (Blk V0 (w.heap.size + 1) [.int .i64 2, .string n, .int .i64 i, .int .i64 m]) := hide (by rw [hV0]; exact blkAt3_1)
  have KR0 : Hid (Blk V0 (w.heap.size + 1 + 1) [.slice none 0 0, .slice none 0 0, .slice none 0 0, .int .i64 0, .int .i64 0, .int .i64 0]) := hide (by rw [hV0]; exact blkAt3_2)
  have B0 := hide bV
  have HO := hide ho
  have HW := hide hV0
  have FF := hide ff
  have y0 : V0.cell? ⟨w.heap.size + 1, 0, none⟩ = some (.int .i64 2) := (unhide KD0).c 0 (by simp)
  have y1 : V0.cell? ⟨w.heap.size + 1, 1, none⟩ = some (.string n) := (unhide KD0).c 1 (by simp)
  have y2 : V0.cell? ⟨w.heap.size + 1, 2, none⟩ = some (.int .i64 i) := (unhide KD0).c 2 (by simp)
  have y3 : V0.cell? ⟨w.heap.size + 1, 3, none⟩ = some (.int .i64 m) := (unhide KD0).c 3 (by simp)
  have q0 : V0.cell? ⟨w.heap.size, 0, none⟩ = some (.slice (some ⟨g1, 0, none⟩) ts.length p1) := (unhide KF0).c 0 (by simp)
  have q1 : V0.cell? ⟨w.heap.size, 1, none⟩ = some (.slice (some ⟨g2, 0, none⟩) cs.length p2) := (unhide KF0).c 1 (by simp)
  have q2 : V0.cell? ⟨w.heap.size, 2, none⟩ = some (.slice (some ⟨g3, 0, none⟩) ds.length p3) := (unhide KF0).c 2 (by simp)
  have q3 : V0.cell? ⟨w.heap.size, 3, none⟩ = some (.int .i64 nh) := (unhide KF0).c 3 (by simp)
  have q4 : V0.cell? ⟨w.heap.size, 4, none⟩ = some (.int .i64 nc) := (unhide KF0).c 4 (by simp)
  have q5 : V0.cell? ⟨w.heap.size, 5, none⟩ = some (.int .i64 nd) := (unhide KF0).c 5 (by simp)
  clear hV0 ff
  go_enter Tryz.func49, Tryz.ntmps49
  go_upto_region 1 with fail
  rw [← unhide HW]
  clear HW
  clear y0 y1 y2 y3 q0 q1 q2 q3 q4 q5
  have y0 : V0.cell? ⟨w.heap.size + 1, 0, none⟩ = some (.int .i64 2) := (unhide KD0).c 0 (by simp)
  go_wp2_with fail
  go_loopw [8] (fun u wr => ∃ k : Nat, u = .int .i64 k ∧ k ≤ ts.length ∧ Hid (Blk wr (w.heap.size) [.slice (some ⟨g1, 0, none⟩) ts.length p1, .slice (some ⟨g2, 0, none⟩) cs.length p2, .slice (some ⟨g3, 0, none⟩) ds.length p3, .int .i64 nh, .int .i64 nc, .int .i64 nd]) ∧ Hid (Blk wr (w.heap.size + 1) [.int .i64 2, .string n, .int .i64 i, .int .i64 m]) ∧ Hid (Blk wr (w.heap.size + 1 + 1) [.slice none 0 0, .slice none 0 0, .slice none 0 0, .int .i64 0, .int .i64 0, .int .i64 0]) ∧ Hid (Below w.heap.size w wr) ∧ Hid (∀ j, j < k → ¬ (elAt ts j).nm = n)) (fun u _ => ts.length - (intOf u).toNat)
  case atStart => exact ⟨0, rfl, Nat.zero_le _, KF0, KD0, KR0, B0, hide (fun j hj => by omega)⟩
  case round =>
    obtain ⟨k, rfl, hk, KF, KD, KR, BW, AL⟩ := hrel
    have HOw := hide ((unhide HO).below (unhide BW))
    have q0 : wr.cell? ⟨w.heap.size, 0, none⟩ = some (.slice (some ⟨g1, 0, none⟩) ts.length p1) := (unhide KF).c 0 (by simp)
    have q1 : wr.cell? ⟨w.heap.size, 1, none⟩ = some (.slice (some ⟨g2, 0, none⟩) cs.length p2) := (unhide KF).c 1 (by simp)
    have q2 : wr.cell? ⟨w.heap.size, 2, none⟩ = some (.slice (some ⟨g3, 0, none⟩) ds.length p3) := (unhide KF).c 2 (by simp)
    have q3 : wr.cell? ⟨w.heap.size, 3, none⟩ = some (.int .i64 nh) := (unhide KF).c 3 (by simp)
    have q4 : wr.cell? ⟨w.heap.size, 4, none⟩ = some (.int .i64 nc) := (unhide KF).c 4 (by simp)
    have q5 : wr.cell? ⟨w.heap.size, 5, none⟩ = some (.int .i64 nd) := (unhide KF).c 5 (by simp)
    have y1 : wr.cell? ⟨w.heap.size + 1, 1, none⟩ = some (.string n) := (unhide KD).c 1 (by simp)
    by_cases hlt : k < ts.length
    · have s0 : wr.cell? ⟨g1, k * 7 + 0, none⟩ = some (.string (elAt ts k).nm) := ((unhide HOw).o1.here rfl k hlt 0 (by omega)).1
      rw [Nat.add_zero] at s0
      have hi1 : (k : Int) < (ts.length : Int) := by omega
      have hi0 : (0 : Int) ≤ (k : Int) := by omega
      obtain ⟨X, hX⟩ : ∃ x, (elAt ts k).nm = x := ⟨_, rfl⟩
      rw [hX] at s0
      have HX := hide hX
      clear hX
      go_wp2_with fail
      obtain ⟨ιw, fW, _, hb, hall⟩ := belClass wr
      have HB := hide hb
      have HA := hide hall
      have d0 : ∀ z, (fW z).cell? ⟨w.heap.size, 0, none⟩ = some (.slice (some ⟨g1, 0, none⟩) ts.length p1) := fun z => ((unhide KF).below (hb z)).c 0 (by simp)
      have d1 : ∀ z, (fW z).cell? ⟨w.heap.size + 1, 1, none⟩ = some (.string n) := fun z => ((unhide KD).below (hb z)).c 1 (by simp)
      have d2 : ∀ z, (fW z).cell? ⟨g1, k * 7, none⟩ = some (.string X) := fun z => ((hb z).cell (block_lt_of_cell s0)).trans s0
      clear hb hall y1 s0 q0 q1 q2 q3 q4 q5
      obtain ⟨x0, h0⟩ := (unhide HA) wr (Below.refl _ _)
      rw [h0]
      clear h0
      by_cases e : X = n
      · have d3 : (X.toList == n.toList) = true := by rw [e]; simp
        refine wp_region_bel (fun w' h => (unhide HA) w' ((unhide HB _).trans (h.mono (unhide HB _).size))) (by kernel_rfl) (by kernel_rfl) ?_
        (repeat (go_big_quiet_step (fail)))
        refine wpQuiet_nil ?_
        rintro _ ⟨y, rfl⟩
        clear d0 d1 d2 d3
        have KF5 := hide ((unhide KF).below (unhide HB y))
        have KD5 := hide ((unhide KD).below (unhide HB y))
        have KR5 := hide ((unhide KR).below (unhide HB y))
        have B5 := hide ((unhide BW).trans ((unhide HB y).mono (unhide BW).size))
        clear KF KD KR BW HOw
        obtain ⟨eB, eF⟩ := (unhide E1) k hlt ((unhide HX).trans e) (unhide AL)
        subst eB
        have EF := hide eF
        clear eF AL E1 E2
        generalize fW y = w5 at *
        have HO5 := hide ((unhide HO).below (unhide B5))
        have q0 : w5.cell? ⟨w.heap.size, 0, none⟩ = some (.slice (some ⟨g1, 0, none⟩) ts.length p1) := (unhide KF5).c 0 (by simp)
        have q1 : w5.cell? ⟨w.heap.size, 1, none⟩ = some (.slice (some ⟨g2, 0, none⟩) cs.length p2) := (unhide KF5).c 1 (by simp)
        have q2 : w5.cell? ⟨w.heap.size, 2, none⟩ = some (.slice (some ⟨g3, 0, none⟩) ds.length p3) := (unhide KF5).c 2 (by simp)
        have q3 : w5.cell? ⟨w.heap.size, 3, none⟩ = some (.int .i64 nh) := (unhide KF5).c 3 (by simp)
        have q4 : w5.cell? ⟨w.heap.size, 4, none⟩ = some (.int .i64 nc) := (unhide KF5).c 4 (by simp)
        have q5 : w5.cell? ⟨w.heap.size, 5, none⟩ = some (.int .i64 nd) := (unhide KF5).c 5 (by simp)
        have t4 : w5.cell? ⟨g1, k * 7 + 4, none⟩ = some (.int .i64 (elAt ts k).dh) := ((unhide HO5).o1.here rfl k hlt 4 (by omega)).1
        have r4 : w5.frozen? ⟨g1, k * 7 + 4, none⟩ = false := ((unhide HO5).o1.here rfl k hlt 4 (by omega)).2
        have t5 : w5.cell? ⟨g1, k * 7 + 5, none⟩ = some (.int .i64 (elAt ts k).dc) := ((unhide HO5).o1.here rfl k hlt 5 (by omega)).1
        have r5 : w5.frozen? ⟨g1, k * 7 + 5, none⟩ = false := ((unhide HO5).o1.here rfl k hlt 5 (by omega)).2
        have t6 : w5.cell? ⟨g1, k * 7 + 6, none⟩ = some (.int .i64 (elAt ts k).dd) := ((unhide HO5).o1.here rfl k hlt 6 (by omega)).1
        have r6 : w5.frozen? ⟨g1, k * 7 + 6, none⟩ = false := ((unhide HO5).o1.here rfl k hlt 6 (by omega)).2
        have hg := (unhide HO).o1.lies g1 rfl
        go_upto_region 20 with fail
        obtain ⟨V6, hV6⟩ : ∃ V, V = (((w5.setCell ⟨g1, k * 7 + 4, none⟩ (.int .i64 nh)).setCell ⟨g1, k * 7 + 5, none⟩ (.int .i64 nc)).setCell ⟨g1, k * 7 + 6, none⟩ (.int .i64 nd)) := ⟨_, rfl⟩
        rw [← hV6]
        have KF6 : Hid (Blk V6 (w.heap.size) [.slice (some ⟨g1, 0, none⟩) ts.length p1, .slice (some ⟨g2, 0, none⟩) cs.length p2, .slice (some ⟨g3, 0, none⟩) ds.length p3, .int .i64 nh, .int .i64 nc, .int .i64 nd]) := hide (by rw [hV6]; exact ((((unhide KF5).other (p := ⟨g1, k * 7 + 4, none⟩) (by show g1 ≠ w.heap.size; omega) _).other (p := ⟨g1, k * 7 + 5, none⟩) (by show g1 ≠ w.heap.size; omega) _).other (p := ⟨g1, k * 7 + 6, none⟩) (by show g1 ≠ w.heap.size; omega) _))
        have KR6 : Hid (Blk V6 (w.heap.size + 1 + 1) [.slice none 0 0, .slice none 0 0, .slice none 0 0, .int .i64 0, .int .i64 0, .int .i64 0]) := hide (by rw [hV6]; exact ((((unhide KR5).other (p := ⟨g1, k * 7 + 4, none⟩) (by show g1 ≠ w.heap.size + 1 + 1; omega) _).other (p := ⟨g1, k * 7 + 5, none⟩) (by show g1 ≠ w.heap.size + 1 + 1; omega) _).other (p := ⟨g1, k * 7 + 6, none⟩) (by show g1 ≠ w.heap.size + 1 + 1; omega) _))
        have HO6 : Hid (FlOwn V6 base (some ⟨g1, 0, none⟩) (some ⟨g2, 0, none⟩) (some ⟨g3, 0, none⟩) ts.length p1 cs.length p2 ds.length p3 (ts.set k ⟨(elAt ts k).nm, (elAt ts k).h, (elAt ts k).c, (elAt ts k).d, nh, nc, nd⟩) cs ds) := hide (by rw [hV6]; exact (unhide HO5).task hlt)
        have B6 : Hid (Below base w V6) := hide (by rw [hV6]; exact ((((unhide B5).mono hsz).setCell (p := ⟨g1, k * 7 + 4, none⟩) hg.1 _).setCell (p := ⟨g1, k * 7 + 5, none⟩) hg.1 _).setCell (p := ⟨g1, k * 7 + 6, none⟩) hg.1 _)
        have GR6 : Hid (w.grownBy V6 (some g1)) := hide (by rw [hV6]; exact grown_set (grown_set (grown_set (bel_grownM (unhide B5) (some g1)) _ _) _ _) _ _)
        have S6 := (unhide KR6).lt
        clear hV6 t4 t5 t6 r4 r5 r6 q0 q1 q2 q3 q4 q5
        have q0 : V6.cell? ⟨w.heap.size, 0, none⟩ = some (.slice (some ⟨g1, 0, none⟩) ts.length p1) := (unhide KF6).c 0 (by simp)
        have q1 : V6.cell? ⟨w.heap.size, 1, none⟩ = some (.slice (some ⟨g2, 0, none⟩) cs.length p2) := (unhide KF6).c 1 (by simp)
        have q2 : V6.cell? ⟨w.heap.size, 2, none⟩ = some (.slice (some ⟨g3, 0, none⟩) ds.length p3) := (unhide KF6).c 2 (by simp)
        have q3 : V6.cell? ⟨w.heap.size, 3, none⟩ = some (.int .i64 nh) := (unhide KF6).c 3 (by simp)
        have q4 : V6.cell? ⟨w.heap.size, 4, none⟩ = some (.int .i64 nc) := (unhide KF6).c 4 (by simp)
        have q5 : V6.cell? ⟨w.heap.size, 5, none⟩ = some (.int .i64 nd) := (unhide KF6).c 5 (by simp)
        go_wp2_with (((with_reducible show wpList _ _ _ (⟨none, .store 37 _ _, _, _, _, none⟩ :: _) _ _); refine at_storeAgg (us := [.slice none 0 0, .slice none 0 0, .slice none 0 0, .int .i64 0, .int .i64 0, .int .i64 0]) (vs := [.slice (some ⟨g1, 0, none⟩) ts.length p1, .slice (some ⟨g2, 0, none⟩) cs.length p2, .slice (some ⟨g3, 0, none⟩) ds.length p3, .int .i64 nh, .int .i64 nc, .int .i64 nd]) Tryz.sizeOf37 rfl rfl (unhide KR6) rfl (fun v hv => by simp at hv; rcases hv with rfl | rfl | rfl | rfl | rfl | rfl <;> rfl) ?_; intro w9 k9 g9; have K9 := hide k9; have G9 := hide g9; clear k9 g9))
        refine bodyPost_ret (results_cellB (vs := [.slice (some ⟨g1, 0, none⟩) ts.length p1, .slice (some ⟨g2, 0, none⟩) cs.length p2, .slice (some ⟨g3, 0, none⟩) ds.length p3, .int .i64 nh, .int .i64 nc, .int .i64 nd]) rfl Tryz.isAgg37 Tryz.sizeOf37 rfl (unhide K9) rfl) rfl ⟨_, rfl, ⟨_, _, _, _, _, _, _, _, _, _, _, _, rfl, fun _ => by rw [unhide EF]; exact ⟨⟨(unhide HO6).o1.far (unhide G9) (fun q hq e => by have e1 : g1 = q := Option.some.inj hq; have e2 : q = w.heap.size + 1 + 1 := Option.some.inj e; have := (unhide HO).o1.lies g1 rfl; omega), (unhide HO6).o2.far (unhide G9) (fun q hq e => by have e1 : g2 = q := Option.some.inj hq; have e2 : q = w.heap.size + 1 + 1 := Option.some.inj e; have := (unhide HO).o2.lies g2 rfl; omega), (unhide HO6).o3.far (unhide G9) (fun q hq e => by have e1 : g3 = q := Option.some.inj hq; have e2 : q = w.heap.size + 1 + 1 := Option.some.inj e; have := (unhide HO).o3.lies g3 rfl; omega), (unhide HO6).p12, (unhide HO6).p13, (unhide HO6).p23⟩, rfl, rfl, rfl⟩⟩, ⟨(unhide B6).grown (unhide G9) (by omega) (fun q hq => by have e : w.heap.size + 1 + 1 = q := Option.some.inj hq; omega), grown_newM (unhide GR6) (unhide G9) (by omega)⟩⟩
      · have d3 := txl_no e
        refine wp_region_bel (fun w' h => (unhide HA) w' ((unhide HB _).trans (h.mono (unhide HB _).size))) (by kernel_rfl) (by kernel_rfl) ?_
        (repeat (go_big_quiet_step (fail)))
        refine wpQuiet_nil ?_
        rintro _ ⟨y, rfl⟩
        clear d0 d1 d2 d3
        have KF5 := hide ((unhide KF).below (unhide HB y))
        have KD5 := hide ((unhide KD).below (unhide HB y))
        have KR5 := hide ((unhide KR).below (unhide HB y))
        have B5 := hide ((unhide BW).trans ((unhide HB y).mono (unhide BW).size))
        clear KF KD KR BW HOw
        have NA : Hid (∀ j, j < k + 1 → ¬ (elAt ts j).nm = n) := hide (fun j hj => by
          by_cases e3 : j = k
          · rw [e3, unhide HX]; exact e
          · exact (unhide AL) j (by omega))
        clear AL
        go_wp2_with fail
        go_roundw
        case rel => exact ⟨k + 1, by go_num, by omega, KF5, KD5, KR5, B5, NA⟩
        case measure => simp [intOf]; omega
    · have hi1 : ¬ (k : Int) < (ts.length : Int) := by omega
      have eB := (unhide E2) (fun j hj => (unhide AL) j (by omega))
      subst eB
      clear E1 E2 AL
      go_wp2_with (((with_reducible show wpList _ _ _ (⟨none, .store 37 _ _, _, _, _, none⟩ :: _) _ _); refine at_storeAgg (us := [.slice none 0 0, .slice none 0 0, .slice none 0 0, .int .i64 0, .int .i64 0, .int .i64 0]) (vs := [.slice (some ⟨g1, 0, none⟩) ts.length p1, .slice (some ⟨g2, 0, none⟩) cs.length p2, .slice (some ⟨g3, 0, none⟩) ds.length p3, .int .i64 nh, .int .i64 nc, .int .i64 nd]) Tryz.sizeOf37 rfl rfl (unhide KR) rfl (fun v hv => by simp at hv; rcases hv with rfl | rfl | rfl | rfl | rfl | rfl <;> rfl) ?_; intro w9 k9 g9; have K9 := hide k9; have G9 := hide g9; clear k9 g9))
      refine bodyPost_ret (results_cellB (vs := [.slice (some ⟨g1, 0, none⟩) ts.length p1, .slice (some ⟨g2, 0, none⟩) cs.length p2, .slice (some ⟨g3, 0, none⟩) ds.length p3, .int .i64 nh, .int .i64 nc, .int .i64 nd]) rfl Tryz.isAgg37 Tryz.sizeOf37 rfl (unhide K9) rfl) rfl ⟨_, rfl, ⟨_, _, _, _, _, _, _, _, _, _, _, _, rfl, fun h => by cases h⟩, mdG_of ((unhide BW).grown (unhide G9) (unhide BW).size (fun q hq => by have e : w.heap.size + 1 + 1 = q := Option.some.inj hq; omega)) hsz⟩

end Go.Proofs.YticdccdkjepifaaGreat
