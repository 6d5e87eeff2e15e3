/-
  What the program's Release answers: the plain answer, at every fleet; nothing that was there is written.
-/
import Derived.Test.YticdccdkjepifaaGreatRlSo
import Derived.Test.YticdccdkjepifaaGreatMRlIx
import Derived.Test.YticdccdkjepifaaGreatFfImp
namespace Go.Proofs.YticdccdkjepifaaGreat
open Go Go.RowKit

theorem cr_m (cs : List Cr) (n : ByteArray) (M : Int) : (!decide (ixE (qCr n) cs < 0) && decide ((crAt cs n).m < M)) = (!decide (ixE (qCr n) cs < 0) && decide ((elAt cs (ixE (qCr n) cs).toNat).m < M)) := by
  by_cases h : ixE (qCr n) cs < 0
  · simp [h]
  · rw [crAt, if_neg h]
theorem cr_d (cs : List Cr) (n : ByteArray) (M : Int) : (!decide (ixE (qCr n) cs < 0) && decide ((crAt cs n).d < M)) = (!decide (ixE (qCr n) cs < 0) && decide ((elAt cs (ixE (qCr n) cs).toNat).d < M)) := by
  by_cases h : ixE (qCr n) cs < 0
  · simp [h]
  · rw [crAt, if_neg h]
theorem rl_bad {f : Fl} (h : flB f = false) : rlR f = (1, ⟨#[]⟩) := by simp [rlR, h]
theorem rl_due {f : Fl} {k : Nat} (h : flB f = true) (a : ixE (duT f) f.ts = (k : Int)) : rlR f = (2, (elAt f.ts k).nm) := by simp [rlR, h, a]
theorem rl_un {f : Fl} {k : Nat} (h : flB f = true) (a : ixE (duT f) f.ts = -1) (b : ixE (unB f) f.ds = (k : Int)) : rlR f = (3, (elAt f.ds k).n) := by simp [rlR, h, a, b]
theorem rl_mn {f : Fl} {k : Nat} (h : flB f = true) (a : ixE (duT f) f.ts = -1) (b : ixE (unB f) f.ds = -1) (c : ixE (mnB f) f.ds = (k : Int)) : rlR f = (4, (elAt f.ds k).n) := by simp [rlR, h, a, b, c]
theorem rl_ol {f : Fl} {k : Nat} (h : flB f = true) (a : ixE (duT f) f.ts = -1) (b : ixE (unB f) f.ds = -1) (c : ixE (mnB f) f.ds = -1) (d : ixE (olB f) f.ds = (k : Int)) : rlR f = (5, (elAt f.ds k).n) := by simp [rlR, h, a, b, c, d]
theorem rl_yes {f : Fl} (h : flB f = true) (a : ixE (duT f) f.ts = -1) (b : ixE (unB f) f.ds = -1) (c : ixE (mnB f) f.ds = -1) (d : ixE (olB f) f.ds = -1) : rlR f = (0, ⟨#[]⟩) := by simp [rlR, h, a, b, c, d]
theorem ret_rl {x : Int × ByteArray} {a : Int} {s : ByteArray} (h : x = (a, s)) : Ending.returned (.tuple #[.int .i64 a, .string s]) = .returned (.tuple #[.int .i64 x.1, .string x.2]) := by rw [h]
set_option maxRecDepth 20000 in
set_option maxHeartbeats 4000000 in
theorem implRelease_any (nh nc nd : Int) (a1 a2 a3 : Option Addr) (l1 c1 l2 c2 l3 c3 : Nat) (ts : List Ts) (cs : List Cr) (ds : List Df) (w : World) (hr : FlIn w a1 a2 a3 l1 l2 l3 ts cs ds) (ft : ∀ i, fitT (elAt ts i).nm) (fc : ∀ i, fitT (elAt cs i).n) (fd : ∀ i, fitT (elAt ds i).n) :
    Calls Tryz.prog 82 #[.agg #[.slice a1 l1 c1, .slice a2 l2 c2, .slice a3 l3 c3, .int .i64 nh, .int .i64 nc, .int .i64 nd]] w fun e w' => e = .returned (.tuple #[.int .i64 (rlR ⟨ts, cs, ds, nh, nc, nd⟩).1, .string (rlR ⟨ts, cs, ds, nh, nc, nd⟩).2]) ∧ Below w.heap.size w w' := by
  have C1 : Hid (∀ V, Below w.heap.size w V → Calls Tryz.prog 55 #[.agg #[.slice a1 l1 c1, .slice a2 l2 c2, .slice a3 l3 c3, .int .i64 nh, .int .i64 nc, .int .i64 nd]] V fun e w' => e = .returned (.bool (flB ⟨ts, cs, ds, nh, nc, nd⟩)) ∧ Below V.heap.size V w') := hide (fun V b => implFleetOk_any nh nc nd a1 a2 a3 l1 c1 l2 c2 l3 c3 ts cs ds V (hr.below b) ft fc fd)
  have HRI := hide hr
  have z1 := hr.r1.len_eq
  have z3 := hr.r3.len_eq
  have m1 := hr.r1.small
  have m3 := hr.r3.small
  obtain ⟨W, hW⟩ : ∃ W, W = w.alloc (Obj.cells #[.slice a1 l1 c1, .slice a2 l2 c2, .slice a3 l3 c3, .int .i64 nh, .int .i64 nc, .int .i64 nd] 37) := ⟨_, rfl⟩
  have K0 : Hid (Blk W w.heap.size [.slice a1 l1 c1, .slice a2 l2 c2, .slice a3 l3 c3, .int .i64 nh, .int .i64 nc, .int .i64 nd]) := hide (by rw [hW]; exact Blk.new _ _)
  have B0 : Hid (Below w.heap.size w W) := hide (by rw [hW]; exact bel1 _)
  have HW := hide hW
  clear hW
  cases q0 : flB ⟨ts, cs, ds, nh, nc, nd⟩ with
  | false =>
    have HE := hide (rl_bad q0)
    rw [q0] at C1
    clear q0 ft fc fd hr
    go_enter Tryz.func82, Tryz.ntmps82
    go_wp2_with fail
    rw [← unhide HW]
    clear HW
    obtain ⟨ι, fW, _, hb, hall⟩ := belClass W
    have HB := hide hb
    have HA := hide hall
    have c00 : ∀ z, (fW z).cell? ⟨w.heap.size, 0, none⟩ = some (.slice a1 l1 c1) := fun z => ((unhide K0).below (hb z)).c 0 (by simp)
    have c01 : ∀ z, (fW z).cell? ⟨w.heap.size, 1, none⟩ = some (.slice a2 l2 c2) := fun z => ((unhide K0).below (hb z)).c 1 (by simp)
    have c02 : ∀ z, (fW z).cell? ⟨w.heap.size, 2, none⟩ = some (.slice a3 l3 c3) := fun z => ((unhide K0).below (hb z)).c 2 (by simp)
    have c03 : ∀ z, (fW z).cell? ⟨w.heap.size, 3, none⟩ = some (.int .i64 nh) := fun z => ((unhide K0).below (hb z)).c 3 (by simp)
    have c04 : ∀ z, (fW z).cell? ⟨w.heap.size, 4, none⟩ = some (.int .i64 nc) := fun z => ((unhide K0).below (hb z)).c 4 (by simp)
    have c05 : ∀ z, (fW z).cell? ⟨w.heap.size, 5, none⟩ = some (.int .i64 nd) := fun z => ((unhide K0).below (hb z)).c 5 (by simp)
    clear hb hall
    obtain ⟨x0, h0⟩ := (unhide HA) W (Below.refl _ _)
    rw [h0]
    clear h0
    go_wp2_with fail
    refine (belQ (unhide HB) (unhide HA) (unhide C1 _ ((unhide B0).trans ((unhide HB _).mono (unhide B0).size)))).mono ?_
    rintro e _ ⟨rfl, y, rfl⟩
    go_wp2_with fail
    go_ret2
    exact ⟨ret_rl (unhide HE), ((unhide B0).trans ((unhide HB _).mono (unhide B0).size))⟩
  | true =>
    obtain ⟨f1, f2, f3, f4⟩ := flB_facts q0
    obtain ⟨g1, g2, g3⟩ := ckB_facts f1
    obtain ⟨h1, h2, _⟩ := listI_facts f4
    obtain ⟨h5, _, _⟩ := listS_facts f3
    simp only at g1 g2 g3 h1 h5
    have hs : ∀ i, i < ds.length → 0 ≤ (elAt ds i).s ∧ (elAt ds i).s ≤ 1000000 := fun i hi => by
      have := h2 i hi
      have k : (nameB (elAt ds i).n && inB (elAt ds i).i 1 1000000 && inB (elAt ds i).s 0 nd) = true := this
      simp only [Bool.and_eq_true] at k
      have k2 : 0 ≤ (elAt ds i).s ∧ (elAt ds i).s ≤ nd := of_decide_eq_true k.2
      omega
    have C2 : Hid (∀ V, Below w.heap.size w V → Calls Tryz.prog 83 #[.slice a1 l1 c1, .func (.func 110) #[.agg #[.slice a1 l1 c1, .slice a2 l2 c2, .slice a3 l3 c3, .int .i64 nh, .int .i64 nc, .int .i64 nd]] #[]] V fun e w' => e = .returned (.int .i64 (ixE (duT ⟨ts, cs, ds, nh, nc, nd⟩) ts)) ∧ Below V.heap.size V w') := hide (fun V b => ixDue (duT ⟨ts, cs, ds, nh, nc, nd⟩) _ a1 l1 c1 ts V (hr.r1.below b) (fun i U hi _ => isDue_any nh nc nd a1 a2 a3 l1 c1 l2 c2 l3 c3 (elAt ts i) U (ft i)))
    have C3 : Hid (∀ V, Below w.heap.size w V → Calls Tryz.prog 111 #[.slice a3 l3 c3, .func (.func 112) #[.agg #[.slice a1 l1 c1, .slice a2 l2 c2, .slice a3 l3 c3, .int .i64 nh, .int .i64 nc, .int .i64 nd]] #[]] V fun e w' => e = .returned (.int .i64 (ixE (unB ⟨ts, cs, ds, nh, nc, nd⟩) ds)) ∧ Below V.heap.size V w') := hide (fun V b => ixUn (unB ⟨ts, cs, ds, nh, nc, nd⟩) _ a3 l3 c3 ds V (hr.r3.below b) (fun i U hi b2 => isUn_any nh nc nd a1 a2 a3 l1 c1 l2 c2 l3 c3 cs (elAt ds i) U (hr.r2.below (b.trans (b2.mono b.size)))))
    have C4 : Hid (∀ V, Below w.heap.size w V → Calls Tryz.prog 111 #[.slice a3 l3 c3, .func (.func 113) #[.agg #[.slice a1 l1 c1, .slice a2 l2 c2, .slice a3 l3 c3, .int .i64 nh, .int .i64 nc, .int .i64 nd]] #[]] V fun e w' => e = .returned (.int .i64 (ixE (mnB ⟨ts, cs, ds, nh, nc, nd⟩) ds)) ∧ Below V.heap.size V w') := hide (fun V b => ixMany (mnB ⟨ts, cs, ds, nh, nc, nd⟩) _ a3 l3 c3 ds V (hr.r3.below b) (fun i U hi b2 => by have k := isMany_any nh nc nd a1 a2 a3 l1 c1 l2 c2 l3 c3 cs ds (elAt ds i) U (hr.r2.below (b.trans (b2.mono b.size))) (hr.r3.below (b.trans (b2.mono b.size))) (by omega); rw [cr_m] at k; exact k))
    have C5 : Hid (∀ V, Below w.heap.size w V → Calls Tryz.prog 111 #[.slice a3 l3 c3, .func (.func 114) #[.agg #[.slice a1 l1 c1, .slice a2 l2 c2, .slice a3 l3 c3, .int .i64 nh, .int .i64 nc, .int .i64 nd]] #[]] V fun e w' => e = .returned (.int .i64 (ixE (olB ⟨ts, cs, ds, nh, nc, nd⟩) ds)) ∧ Below V.heap.size V w') := hide (fun V b => ixOld (olB ⟨ts, cs, ds, nh, nc, nd⟩) _ a3 l3 c3 ds V (hr.r3.below b) (fun i U hi b2 => by have k := isOld_any nh nc nd a1 a2 a3 l1 c1 l2 c2 l3 c3 cs (elAt ds i) U (hr.r2.below (b.trans (b2.mono b.size))) g3 (hs i hi); rw [cr_d] at k; exact k))
    have Q0 := hide q0
    rw [q0] at C1
    clear q0 f1 f2 f3 f4 g1 g2 g3 h2 hs ft fc fd hr
    rcases ixE_cases (duT ⟨ts, cs, ds, nh, nc, nd⟩) ts with ⟨e2, _⟩ | ⟨k, hk, e2, _, _⟩
    rotate_left 1
    · have HE := hide (rl_due (unhide Q0) e2)
      rw [e2] at C2
      obtain ⟨bb, off, ee, hc⟩ := (unhide HRI).r1.at_ k (by omega)
      have sK : w.cell? ⟨bb, off + k * 7, none⟩ = some (.string (elAt ts k).nm) := hc 0 (by omega)
      obtain ⟨Y, hY⟩ : ∃ y, (elAt ts k).nm = y := ⟨_, rfl⟩
      rw [hY] at sK
      have HE : Hid (rlR ⟨ts, cs, ds, nh, nc, nd⟩ = (2, Y)) := hide (by rw [unhide HE]; exact congrArg (Prod.mk (2 : Int)) hY)
      have SK := hide sK
      subst ee
      clear hc hY sK e2 
      have hi1 : (k : Int) < (l1 : Int) := by omega
      have hi0 : (0 : Int) ≤ (k : Int) := by omega
      have hne : ((k : Int) != -1) = true := bne_iff_ne.2 (by omega)
      go_enter Tryz.func82, Tryz.ntmps82
      go_wp2_with fail
      rw [← unhide HW]
      clear HW
      obtain ⟨ι, fW, _, hb, hall⟩ := belClass W
      have HB := hide hb
      have HA := hide hall
      have c00 : ∀ z, (fW z).cell? ⟨w.heap.size, 0, none⟩ = some (.slice (some ⟨bb, off, none⟩) l1 c1) := fun z => ((unhide K0).below (hb z)).c 0 (by simp)
      have c01 : ∀ z, (fW z).cell? ⟨w.heap.size, 1, none⟩ = some (.slice a2 l2 c2) := fun z => ((unhide K0).below (hb z)).c 1 (by simp)
      have c02 : ∀ z, (fW z).cell? ⟨w.heap.size, 2, none⟩ = some (.slice a3 l3 c3) := fun z => ((unhide K0).below (hb z)).c 2 (by simp)
      have c03 : ∀ z, (fW z).cell? ⟨w.heap.size, 3, none⟩ = some (.int .i64 nh) := fun z => ((unhide K0).below (hb z)).c 3 (by simp)
      have c04 : ∀ z, (fW z).cell? ⟨w.heap.size, 4, none⟩ = some (.int .i64 nc) := fun z => ((unhide K0).below (hb z)).c 4 (by simp)
      have c05 : ∀ z, (fW z).cell? ⟨w.heap.size, 5, none⟩ = some (.int .i64 nd) := fun z => ((unhide K0).below (hb z)).c 5 (by simp)
      have cK : ∀ z, (fW z).cell? ⟨bb, off + k * 7, none⟩ = some (.string Y) := fun z => (((unhide B0).trans ((hb z).mono (unhide B0).size)).cell (block_lt_of_cell (unhide SK))).trans (unhide SK)
      clear hb hall
      obtain ⟨x0, h0⟩ := (unhide HA) W (Below.refl _ _)
      rw [h0]
      clear h0
      go_wp2_with fail
      refine (belQ (unhide HB) (unhide HA) (unhide C1 _ ((unhide B0).trans ((unhide HB _).mono (unhide B0).size)))).mono ?_
      rintro e _ ⟨rfl, y, rfl⟩
      go_wp2_with fail
      refine (belQ (unhide HB) (unhide HA) (unhide C2 _ ((unhide B0).trans ((unhide HB _).mono (unhide B0).size)))).mono ?_
      rintro e _ ⟨rfl, y, rfl⟩
      go_wp2_with fail
      refine wp_region_bel (fun w' h => (unhide HA) w' ((unhide HB _).trans (h.mono (unhide HB _).size))) (by kernel_rfl) (by kernel_rfl) ?_
      (repeat (go_big_quiet_step (fail)))
      refine wpQuiet_nil ?_
      rintro _ ⟨y, rfl⟩
      go_wp2_with fail
      go_ret2
      exact ⟨ret_rl (unhide HE), ((unhide B0).trans ((unhide HB _).mono (unhide B0).size))⟩
    rw [e2] at C2
    rcases ixE_cases (unB ⟨ts, cs, ds, nh, nc, nd⟩) ds with ⟨e3, _⟩ | ⟨k, hk, e3, _, _⟩
    rotate_left 1
    · have HE := hide (rl_un (unhide Q0) e2 e3)
      rw [e3] at C3
      obtain ⟨bb, off, ee, hc⟩ := (unhide HRI).r3.at_ k (by omega)
      have sK : w.cell? ⟨bb, off + k * 3, none⟩ = some (.string (elAt ds k).n) := hc 0 (by omega)
      obtain ⟨Y, hY⟩ : ∃ y, (elAt ds k).n = y := ⟨_, rfl⟩
      rw [hY] at sK
      have HE : Hid (rlR ⟨ts, cs, ds, nh, nc, nd⟩ = (3, Y)) := hide (by rw [unhide HE]; exact congrArg (Prod.mk (3 : Int)) hY)
      have SK := hide sK
      subst ee
      clear hc hY sK e3 e2
      have hi1 : (k : Int) < (l3 : Int) := by omega
      have hi0 : (0 : Int) ≤ (k : Int) := by omega
      have hne : ((k : Int) != -1) = true := bne_iff_ne.2 (by omega)
      go_enter Tryz.func82, Tryz.ntmps82
      go_wp2_with fail
      rw [← unhide HW]
      clear HW
      obtain ⟨ι, fW, _, hb, hall⟩ := belClass W
      have HB := hide hb
      have HA := hide hall
      have c00 : ∀ z, (fW z).cell? ⟨w.heap.size, 0, none⟩ = some (.slice a1 l1 c1) := fun z => ((unhide K0).below (hb z)).c 0 (by simp)
      have c01 : ∀ z, (fW z).cell? ⟨w.heap.size, 1, none⟩ = some (.slice a2 l2 c2) := fun z => ((unhide K0).below (hb z)).c 1 (by simp)
      have c02 : ∀ z, (fW z).cell? ⟨w.heap.size, 2, none⟩ = some (.slice (some ⟨bb, off, none⟩) l3 c3) := fun z => ((unhide K0).below (hb z)).c 2 (by simp)
      have c03 : ∀ z, (fW z).cell? ⟨w.heap.size, 3, none⟩ = some (.int .i64 nh) := fun z => ((unhide K0).below (hb z)).c 3 (by simp)
      have c04 : ∀ z, (fW z).cell? ⟨w.heap.size, 4, none⟩ = some (.int .i64 nc) := fun z => ((unhide K0).below (hb z)).c 4 (by simp)
      have c05 : ∀ z, (fW z).cell? ⟨w.heap.size, 5, none⟩ = some (.int .i64 nd) := fun z => ((unhide K0).below (hb z)).c 5 (by simp)
      have cK : ∀ z, (fW z).cell? ⟨bb, off + k * 3, none⟩ = some (.string Y) := fun z => (((unhide B0).trans ((hb z).mono (unhide B0).size)).cell (block_lt_of_cell (unhide SK))).trans (unhide SK)
      clear hb hall
      obtain ⟨x0, h0⟩ := (unhide HA) W (Below.refl _ _)
      rw [h0]
      clear h0
      go_wp2_with fail
      refine (belQ (unhide HB) (unhide HA) (unhide C1 _ ((unhide B0).trans ((unhide HB _).mono (unhide B0).size)))).mono ?_
      rintro e _ ⟨rfl, y, rfl⟩
      go_wp2_with fail
      refine (belQ (unhide HB) (unhide HA) (unhide C2 _ ((unhide B0).trans ((unhide HB _).mono (unhide B0).size)))).mono ?_
      rintro e _ ⟨rfl, y, rfl⟩
      go_wp2_with fail
      refine (belQ (unhide HB) (unhide HA) (unhide C3 _ ((unhide B0).trans ((unhide HB _).mono (unhide B0).size)))).mono ?_
      rintro e _ ⟨rfl, y, rfl⟩
      go_wp2_with fail
      refine wp_region_bel (fun w' h => (unhide HA) w' ((unhide HB _).trans (h.mono (unhide HB _).size))) (by kernel_rfl) (by kernel_rfl) ?_
      (repeat (go_big_quiet_step (fail)))
      refine wpQuiet_nil ?_
      rintro _ ⟨y, rfl⟩
      go_wp2_with fail
      go_ret2
      exact ⟨ret_rl (unhide HE), ((unhide B0).trans ((unhide HB _).mono (unhide B0).size))⟩
    rw [e3] at C3
    rcases ixE_cases (mnB ⟨ts, cs, ds, nh, nc, nd⟩) ds with ⟨e4, _⟩ | ⟨k, hk, e4, _, _⟩
    rotate_left 1
    · have HE := hide (rl_mn (unhide Q0) e2 e3 e4)
      rw [e4] at C4
      obtain ⟨bb, off, ee, hc⟩ := (unhide HRI).r3.at_ k (by omega)
      have sK : w.cell? ⟨bb, off + k * 3, none⟩ = some (.string (elAt ds k).n) := hc 0 (by omega)
      obtain ⟨Y, hY⟩ : ∃ y, (elAt ds k).n = y := ⟨_, rfl⟩
      rw [hY] at sK
      have HE : Hid (rlR ⟨ts, cs, ds, nh, nc, nd⟩ = (4, Y)) := hide (by rw [unhide HE]; exact congrArg (Prod.mk (4 : Int)) hY)
      have SK := hide sK
      subst ee
      clear hc hY sK e4 e2 e3
      have hi1 : (k : Int) < (l3 : Int) := by omega
      have hi0 : (0 : Int) ≤ (k : Int) := by omega
      have hne : ((k : Int) != -1) = true := bne_iff_ne.2 (by omega)
      go_enter Tryz.func82, Tryz.ntmps82
      go_wp2_with fail
      rw [← unhide HW]
      clear HW
      obtain ⟨ι, fW, _, hb, hall⟩ := belClass W
      have HB := hide hb
      have HA := hide hall
      have c00 : ∀ z, (fW z).cell? ⟨w.heap.size, 0, none⟩ = some (.slice a1 l1 c1) := fun z => ((unhide K0).below (hb z)).c 0 (by simp)
      have c01 : ∀ z, (fW z).cell? ⟨w.heap.size, 1, none⟩ = some (.slice a2 l2 c2) := fun z => ((unhide K0).below (hb z)).c 1 (by simp)
      have c02 : ∀ z, (fW z).cell? ⟨w.heap.size, 2, none⟩ = some (.slice (some ⟨bb, off, none⟩) l3 c3) := fun z => ((unhide K0).below (hb z)).c 2 (by simp)
      have c03 : ∀ z, (fW z).cell? ⟨w.heap.size, 3, none⟩ = some (.int .i64 nh) := fun z => ((unhide K0).below (hb z)).c 3 (by simp)
      have c04 : ∀ z, (fW z).cell? ⟨w.heap.size, 4, none⟩ = some (.int .i64 nc) := fun z => ((unhide K0).below (hb z)).c 4 (by simp)
      have c05 : ∀ z, (fW z).cell? ⟨w.heap.size, 5, none⟩ = some (.int .i64 nd) := fun z => ((unhide K0).below (hb z)).c 5 (by simp)
      have cK : ∀ z, (fW z).cell? ⟨bb, off + k * 3, none⟩ = some (.string Y) := fun z => (((unhide B0).trans ((hb z).mono (unhide B0).size)).cell (block_lt_of_cell (unhide SK))).trans (unhide SK)
      clear hb hall
      obtain ⟨x0, h0⟩ := (unhide HA) W (Below.refl _ _)
      rw [h0]
      clear h0
      go_wp2_with fail
      refine (belQ (unhide HB) (unhide HA) (unhide C1 _ ((unhide B0).trans ((unhide HB _).mono (unhide B0).size)))).mono ?_
      rintro e _ ⟨rfl, y, rfl⟩
      go_wp2_with fail
      refine (belQ (unhide HB) (unhide HA) (unhide C2 _ ((unhide B0).trans ((unhide HB _).mono (unhide B0).size)))).mono ?_
      rintro e _ ⟨rfl, y, rfl⟩
      go_wp2_with fail
      refine (belQ (unhide HB) (unhide HA) (unhide C3 _ ((unhide B0).trans ((unhide HB _).mono (unhide B0).size)))).mono ?_
      rintro e _ ⟨rfl, y, rfl⟩
      go_wp2_with fail
      refine (belQ (unhide HB) (unhide HA) (unhide C4 _ ((unhide B0).trans ((unhide HB _).mono (unhide B0).size)))).mono ?_
      rintro e _ ⟨rfl, y, rfl⟩
      go_wp2_with fail
      refine wp_region_bel (fun w' h => (unhide HA) w' ((unhide HB _).trans (h.mono (unhide HB _).size))) (by kernel_rfl) (by kernel_rfl) ?_
      (repeat (go_big_quiet_step (fail)))
      refine wpQuiet_nil ?_
      rintro _ ⟨y, rfl⟩
      go_wp2_with fail
      go_ret2
      exact ⟨ret_rl (unhide HE), ((unhide B0).trans ((unhide HB _).mono (unhide B0).size))⟩
    rw [e4] at C4
    rcases ixE_cases (olB ⟨ts, cs, ds, nh, nc, nd⟩) ds with ⟨e5, _⟩ | ⟨k, hk, e5, _, _⟩
    rotate_left 1
    · have HE := hide (rl_ol (unhide Q0) e2 e3 e4 e5)
      rw [e5] at C5
      obtain ⟨bb, off, ee, hc⟩ := (unhide HRI).r3.at_ k (by omega)
      have sK : w.cell? ⟨bb, off + k * 3, none⟩ = some (.string (elAt ds k).n) := hc 0 (by omega)
      obtain ⟨Y, hY⟩ : ∃ y, (elAt ds k).n = y := ⟨_, rfl⟩
      rw [hY] at sK
      have HE : Hid (rlR ⟨ts, cs, ds, nh, nc, nd⟩ = (5, Y)) := hide (by rw [unhide HE]; exact congrArg (Prod.mk (5 : Int)) hY)
      have SK := hide sK
      subst ee
      clear hc hY sK e5 e2 e3 e4
      have hi1 : (k : Int) < (l3 : Int) := by omega
      have hi0 : (0 : Int) ≤ (k : Int) := by omega
      have hne : ((k : Int) != -1) = true := bne_iff_ne.2 (by omega)
      go_enter Tryz.func82, Tryz.ntmps82
      go_wp2_with fail
      rw [← unhide HW]
      clear HW
      obtain ⟨ι, fW, _, hb, hall⟩ := belClass W
      have HB := hide hb
      have HA := hide hall
      have c00 : ∀ z, (fW z).cell? ⟨w.heap.size, 0, none⟩ = some (.slice a1 l1 c1) := fun z => ((unhide K0).below (hb z)).c 0 (by simp)
      have c01 : ∀ z, (fW z).cell? ⟨w.heap.size, 1, none⟩ = some (.slice a2 l2 c2) := fun z => ((unhide K0).below (hb z)).c 1 (by simp)
      have c02 : ∀ z, (fW z).cell? ⟨w.heap.size, 2, none⟩ = some (.slice (some ⟨bb, off, none⟩) l3 c3) := fun z => ((unhide K0).below (hb z)).c 2 (by simp)
      have c03 : ∀ z, (fW z).cell? ⟨w.heap.size, 3, none⟩ = some (.int .i64 nh) := fun z => ((unhide K0).below (hb z)).c 3 (by simp)
      have c04 : ∀ z, (fW z).cell? ⟨w.heap.size, 4, none⟩ = some (.int .i64 nc) := fun z => ((unhide K0).below (hb z)).c 4 (by simp)
      have c05 : ∀ z, (fW z).cell? ⟨w.heap.size, 5, none⟩ = some (.int .i64 nd) := fun z => ((unhide K0).below (hb z)).c 5 (by simp)
      have cK : ∀ z, (fW z).cell? ⟨bb, off + k * 3, none⟩ = some (.string Y) := fun z => (((unhide B0).trans ((hb z).mono (unhide B0).size)).cell (block_lt_of_cell (unhide SK))).trans (unhide SK)
      clear hb hall
      obtain ⟨x0, h0⟩ := (unhide HA) W (Below.refl _ _)
      rw [h0]
      clear h0
      go_wp2_with fail
      refine (belQ (unhide HB) (unhide HA) (unhide C1 _ ((unhide B0).trans ((unhide HB _).mono (unhide B0).size)))).mono ?_
      rintro e _ ⟨rfl, y, rfl⟩
      go_wp2_with fail
      refine (belQ (unhide HB) (unhide HA) (unhide C2 _ ((unhide B0).trans ((unhide HB _).mono (unhide B0).size)))).mono ?_
      rintro e _ ⟨rfl, y, rfl⟩
      go_wp2_with fail
      refine (belQ (unhide HB) (unhide HA) (unhide C3 _ ((unhide B0).trans ((unhide HB _).mono (unhide B0).size)))).mono ?_
      rintro e _ ⟨rfl, y, rfl⟩
      go_wp2_with fail
      refine (belQ (unhide HB) (unhide HA) (unhide C4 _ ((unhide B0).trans ((unhide HB _).mono (unhide B0).size)))).mono ?_
      rintro e _ ⟨rfl, y, rfl⟩
      go_wp2_with fail
      refine (belQ (unhide HB) (unhide HA) (unhide C5 _ ((unhide B0).trans ((unhide HB _).mono (unhide B0).size)))).mono ?_
      rintro e _ ⟨rfl, y, rfl⟩
      go_wp2_with fail
      refine wp_region_bel (fun w' h => (unhide HA) w' ((unhide HB _).trans (h.mono (unhide HB _).size))) (by kernel_rfl) (by kernel_rfl) ?_
      (repeat (go_big_quiet_step (fail)))
      refine wpQuiet_nil ?_
      rintro _ ⟨y, rfl⟩
      go_wp2_with fail
      go_ret2
      exact ⟨ret_rl (unhide HE), ((unhide B0).trans ((unhide HB _).mono (unhide B0).size))⟩
    rw [e5] at C5
    have HE := hide (rl_yes (unhide Q0) e2 e3 e4 e5)
    clear e2 e3 e4 e5
    go_enter Tryz.func82, Tryz.ntmps82
    go_wp2_with fail
    rw [← unhide HW]
    clear HW
    obtain ⟨ι, fW, _, hb, hall⟩ := belClass W
    have HB := hide hb
    have HA := hide hall
    have c00 : ∀ z, (fW z).cell? ⟨w.heap.size, 0, none⟩ = some (.slice a1 l1 c1) := fun z => ((unhide K0).below (hb z)).c 0 (by simp)
    have c01 : ∀ z, (fW z).cell? ⟨w.heap.size, 1, none⟩ = some (.slice a2 l2 c2) := fun z => ((unhide K0).below (hb z)).c 1 (by simp)
    have c02 : ∀ z, (fW z).cell? ⟨w.heap.size, 2, none⟩ = some (.slice a3 l3 c3) := fun z => ((unhide K0).below (hb z)).c 2 (by simp)
    have c03 : ∀ z, (fW z).cell? ⟨w.heap.size, 3, none⟩ = some (.int .i64 nh) := fun z => ((unhide K0).below (hb z)).c 3 (by simp)
    have c04 : ∀ z, (fW z).cell? ⟨w.heap.size, 4, none⟩ = some (.int .i64 nc) := fun z => ((unhide K0).below (hb z)).c 4 (by simp)
    have c05 : ∀ z, (fW z).cell? ⟨w.heap.size, 5, none⟩ = some (.int .i64 nd) := fun z => ((unhide K0).below (hb z)).c 5 (by simp)
    clear hb hall
    obtain ⟨x0, h0⟩ := (unhide HA) W (Below.refl _ _)
    rw [h0]
    clear h0
    go_wp2_with fail
    refine (belQ (unhide HB) (unhide HA) (unhide C1 _ ((unhide B0).trans ((unhide HB _).mono (unhide B0).size)))).mono ?_
    rintro e _ ⟨rfl, y, rfl⟩
    go_wp2_with fail
    refine (belQ (unhide HB) (unhide HA) (unhide C2 _ ((unhide B0).trans ((unhide HB _).mono (unhide B0).size)))).mono ?_
    rintro e _ ⟨rfl, y, rfl⟩
    go_wp2_with fail
    refine (belQ (unhide HB) (unhide HA) (unhide C3 _ ((unhide B0).trans ((unhide HB _).mono (unhide B0).size)))).mono ?_
    rintro e _ ⟨rfl, y, rfl⟩
    go_wp2_with fail
    refine (belQ (unhide HB) (unhide HA) (unhide C4 _ ((unhide B0).trans ((unhide HB _).mono (unhide B0).size)))).mono ?_
    rintro e _ ⟨rfl, y, rfl⟩
    go_wp2_with fail
    refine (belQ (unhide HB) (unhide HA) (unhide C5 _ ((unhide B0).trans ((unhide HB _).mono (unhide B0).size)))).mono ?_
    rintro e _ ⟨rfl, y, rfl⟩
    go_wp2_with fail
    go_ret2
    exact ⟨ret_rl (unhide HE), ((unhide B0).trans ((unhide HB _).mono (unhide B0).size))⟩

end Go.Proofs.YticdccdkjepifaaGreat
