/-
  Two aircraft advised in turn, of the program and of the model: plain answers, at every argument; nothing that was there is written.
-/
import Derived.Test.YtbaocifpifbldaeTaSadv
namespace Go.Proofs.Ytbaocifpifbldae
open Go.RowKit

set_option maxRecDepth 20000 in
set_option maxHeartbeats 400000 in
theorem turn_no (ai ah ac as_ bi bh bc bs far cl near wi x2 : Int) (w : World) (H1 : Hid (adR ai ah ac as_ bi bh bc far cl bs near wi = 0)) (H2 : Hid (adR bi bh bc bs ai ah ac far cl as_ near wi = x2)) :
    Calls Try.prog 79 #[.agg #[.int .i64 ai, .int .i64 ah, .int .i64 ac, .int .i64 as_, .int .i64 near, .int .i64 wi], .agg #[.int .i64 bi, .int .i64 bh, .int .i64 bc, .int .i64 bs, .int .i64 near, .int .i64 wi], .int .i64 far, .int .i64 cl] w fun e w' => e = .returned (.tuple #[.int .i64 0, .int .i64 x2]) ∧ Below w.heap.size w w' := by
  go_enter Try.func79, Try.ntmps79
  go_wp2_with fail
  obtain ⟨W, hW⟩ : ∃ W, W = ((w.alloc (Obj.cells #[.int .i64 ai, .int .i64 ah, .int .i64 ac, .int .i64 as_, .int .i64 near, .int .i64 wi] 145)).alloc (Obj.cells #[.int .i64 bi, .int .i64 bh, .int .i64 bc, .int .i64 bs, .int .i64 near, .int .i64 wi] 145)) := ⟨_, rfl⟩
  rw [← hW]
  have K0 : Hid (Blk W (w.heap.size) [.int .i64 ai, .int .i64 ah, .int .i64 ac, .int .i64 as_, .int .i64 near, .int .i64 wi]) := hide (by rw [hW]; exact blkAt2_0)
  have K1 : Hid (Blk W (w.heap.size + 1) [.int .i64 bi, .int .i64 bh, .int .i64 bc, .int .i64 bs, .int .i64 near, .int .i64 wi]) := hide (by rw [hW]; exact blkAt2_1)
  have B0 : Hid (Below w.heap.size w W) := hide (by rw [hW]; exact (by repeat (first | exact Below.refl _ _ | refine Below.alloc ?_ (by simp; try omega) _ | refine Below.setCell ?_ (by simp; try omega) _ | refine taDr ?_ _)))
  clear hW
  obtain ⟨ι, fW, _, hb, hall⟩ := belClass W
  have HB := hide hb
  have HA := hide hall
  have c00 : ∀ x, (fW x).cell? ⟨w.heap.size, 0, none⟩ = some (.int .i64 ai) := fun x => ((unhide K0).below (hb x)).c 0 (by simp)
  have c01 : ∀ x, (fW x).cell? ⟨w.heap.size, 1, none⟩ = some (.int .i64 ah) := fun x => ((unhide K0).below (hb x)).c 1 (by simp)
  have c02 : ∀ x, (fW x).cell? ⟨w.heap.size, 2, none⟩ = some (.int .i64 ac) := fun x => ((unhide K0).below (hb x)).c 2 (by simp)
  have c03 : ∀ x, (fW x).cell? ⟨w.heap.size, 3, none⟩ = some (.int .i64 as_) := fun x => ((unhide K0).below (hb x)).c 3 (by simp)
  have c04 : ∀ x, (fW x).cell? ⟨w.heap.size, 4, none⟩ = some (.int .i64 near) := fun x => ((unhide K0).below (hb x)).c 4 (by simp)
  have c05 : ∀ x, (fW x).cell? ⟨w.heap.size, 5, none⟩ = some (.int .i64 wi) := fun x => ((unhide K0).below (hb x)).c 5 (by simp)
  have c10 : ∀ x, (fW x).cell? ⟨w.heap.size + 1, 0, none⟩ = some (.int .i64 bi) := fun x => ((unhide K1).below (hb x)).c 0 (by simp)
  have c11 : ∀ x, (fW x).cell? ⟨w.heap.size + 1, 1, none⟩ = some (.int .i64 bh) := fun x => ((unhide K1).below (hb x)).c 1 (by simp)
  have c12 : ∀ x, (fW x).cell? ⟨w.heap.size + 1, 2, none⟩ = some (.int .i64 bc) := fun x => ((unhide K1).below (hb x)).c 2 (by simp)
  have c13 : ∀ x, (fW x).cell? ⟨w.heap.size + 1, 3, none⟩ = some (.int .i64 bs) := fun x => ((unhide K1).below (hb x)).c 3 (by simp)
  have c14 : ∀ x, (fW x).cell? ⟨w.heap.size + 1, 4, none⟩ = some (.int .i64 near) := fun x => ((unhide K1).below (hb x)).c 4 (by simp)
  have c15 : ∀ x, (fW x).cell? ⟨w.heap.size + 1, 5, none⟩ = some (.int .i64 wi) := fun x => ((unhide K1).below (hb x)).c 5 (by simp)
  clear hb hall
  obtain ⟨x0, h0⟩ := (unhide HA) W (Below.refl _ _)
  rw [h0]
  clear h0
  go_wp2_with (first | (go_at_call 77; refine (belQ (unhide HB) (unhide HA) (seenFrom_al _ _ _ _ _ _ _ _ _)).mono ?_; rintro e _ ⟨rfl, y, rfl⟩) | (go_at_call_of 84 (Value.agg #[.int .i64 ai, .int .i64 ah, .int .i64 ac, .int .i64 as_, .int .i64 near, .int .i64 wi]); refine (belQ (unhide HB) (unhide HA) (advised_is _ _ _ _ _ _ _ _ _ _ _ _ _ (unhide H1))).mono ?_; rintro e _ ⟨rfl, y, rfl⟩) | (go_at_call_of 84 (Value.agg #[.int .i64 bi, .int .i64 bh, .int .i64 bc, .int .i64 bs, .int .i64 near, .int .i64 wi]); refine (belQ (unhide HB) (unhide HA) (advised_is _ _ _ _ _ _ _ _ _ _ _ _ _ (unhide H2))).mono ?_; rintro e _ ⟨rfl, y, rfl⟩))
  repeat (refine wp_region_bel (fun w' h => (unhide HA) w' ((unhide HB _).trans (h.mono (unhide HB _).size))) (by kernel_rfl) (by kernel_rfl) ?_; (repeat (go_big_quiet_step (first | (go_at_call 77; exact belQ (unhide HB) (unhide HA) (seenFrom_al _ _ _ _ _ _ _ _ _)) | (go_at_call_of 84 (Value.agg #[.int .i64 ai, .int .i64 ah, .int .i64 ac, .int .i64 as_, .int .i64 near, .int .i64 wi]); exact belQ (unhide HB) (unhide HA) (advised_is _ _ _ _ _ _ _ _ _ _ _ _ _ (unhide H1))) | (go_at_call_of 84 (Value.agg #[.int .i64 bi, .int .i64 bh, .int .i64 bc, .int .i64 bs, .int .i64 near, .int .i64 wi]); exact belQ (unhide HB) (unhide HA) (advised_is _ _ _ _ _ _ _ _ _ _ _ _ _ (unhide H2)))))); refine wpQuiet_nil ?_; rintro _ ⟨y, rfl⟩; (first | go_wp2_with (first | (go_at_call 77; refine (belQ (unhide HB) (unhide HA) (seenFrom_al _ _ _ _ _ _ _ _ _)).mono ?_; rintro e _ ⟨rfl, y, rfl⟩) | (go_at_call_of 84 (Value.agg #[.int .i64 ai, .int .i64 ah, .int .i64 ac, .int .i64 as_, .int .i64 near, .int .i64 wi]); refine (belQ (unhide HB) (unhide HA) (advised_is _ _ _ _ _ _ _ _ _ _ _ _ _ (unhide H1))).mono ?_; rintro e _ ⟨rfl, y, rfl⟩) | (go_at_call_of 84 (Value.agg #[.int .i64 bi, .int .i64 bh, .int .i64 bc, .int .i64 bs, .int .i64 near, .int .i64 wi]); refine (belQ (unhide HB) (unhide HA) (advised_is _ _ _ _ _ _ _ _ _ _ _ _ _ (unhide H2))).mono ?_; rintro e _ ⟨rfl, y, rfl⟩)) | go_wp2))
  go_ret2
  exact ⟨rfl, (unhide B0).trans ((unhide HB _).mono (unhide B0).size)⟩

set_option maxRecDepth 20000 in
set_option maxHeartbeats 400000 in
theorem turn_yes (ai ah ac as_ bi bh bc bs far cl near wi x1 x2 : Int) (w : World) (hx : ¬ x1 = 0) (H1 : Hid (adR ai ah ac as_ bi bh bc far cl bs near wi = x1)) (H2 : Hid (adR bi bh bc bs ai ah ac far cl x1 near wi = x2)) :
    Calls Try.prog 79 #[.agg #[.int .i64 ai, .int .i64 ah, .int .i64 ac, .int .i64 as_, .int .i64 near, .int .i64 wi], .agg #[.int .i64 bi, .int .i64 bh, .int .i64 bc, .int .i64 bs, .int .i64 near, .int .i64 wi], .int .i64 far, .int .i64 cl] w fun e w' => e = .returned (.tuple #[.int .i64 x1, .int .i64 x2]) ∧ Below w.heap.size w w' := by
  have e1 : (x1 != 0) = true := by simpa using hx
  go_enter Try.func79, Try.ntmps79
  go_wp2_with fail
  obtain ⟨W, hW⟩ : ∃ W, W = ((w.alloc (Obj.cells #[.int .i64 ai, .int .i64 ah, .int .i64 ac, .int .i64 as_, .int .i64 near, .int .i64 wi] 145)).alloc (Obj.cells #[.int .i64 bi, .int .i64 bh, .int .i64 bc, .int .i64 bs, .int .i64 near, .int .i64 wi] 145)) := ⟨_, rfl⟩
  rw [← hW]
  have K0 : Hid (Blk W (w.heap.size) [.int .i64 ai, .int .i64 ah, .int .i64 ac, .int .i64 as_, .int .i64 near, .int .i64 wi]) := hide (by rw [hW]; exact blkAt2_0)
  have K1 : Hid (Blk W (w.heap.size + 1) [.int .i64 bi, .int .i64 bh, .int .i64 bc, .int .i64 bs, .int .i64 near, .int .i64 wi]) := hide (by rw [hW]; exact blkAt2_1)
  have B0 : Hid (Below w.heap.size w W) := hide (by rw [hW]; exact (by repeat (first | exact Below.refl _ _ | refine Below.alloc ?_ (by simp; try omega) _ | refine Below.setCell ?_ (by simp; try omega) _ | refine taDr ?_ _)))
  clear hW
  obtain ⟨ι, fW, _, hb, hall⟩ := belClass W
  have HB := hide hb
  have HA := hide hall
  have c00 : ∀ x, (fW x).cell? ⟨w.heap.size, 0, none⟩ = some (.int .i64 ai) := fun x => ((unhide K0).below (hb x)).c 0 (by simp)
  have c01 : ∀ x, (fW x).cell? ⟨w.heap.size, 1, none⟩ = some (.int .i64 ah) := fun x => ((unhide K0).below (hb x)).c 1 (by simp)
  have c02 : ∀ x, (fW x).cell? ⟨w.heap.size, 2, none⟩ = some (.int .i64 ac) := fun x => ((unhide K0).below (hb x)).c 2 (by simp)
  have c03 : ∀ x, (fW x).cell? ⟨w.heap.size, 3, none⟩ = some (.int .i64 as_) := fun x => ((unhide K0).below (hb x)).c 3 (by simp)
  have c04 : ∀ x, (fW x).cell? ⟨w.heap.size, 4, none⟩ = some (.int .i64 near) := fun x => ((unhide K0).below (hb x)).c 4 (by simp)
  have c05 : ∀ x, (fW x).cell? ⟨w.heap.size, 5, none⟩ = some (.int .i64 wi) := fun x => ((unhide K0).below (hb x)).c 5 (by simp)
  have c10 : ∀ x, (fW x).cell? ⟨w.heap.size + 1, 0, none⟩ = some (.int .i64 bi) := fun x => ((unhide K1).below (hb x)).c 0 (by simp)
  have c11 : ∀ x, (fW x).cell? ⟨w.heap.size + 1, 1, none⟩ = some (.int .i64 bh) := fun x => ((unhide K1).below (hb x)).c 1 (by simp)
  have c12 : ∀ x, (fW x).cell? ⟨w.heap.size + 1, 2, none⟩ = some (.int .i64 bc) := fun x => ((unhide K1).below (hb x)).c 2 (by simp)
  have c13 : ∀ x, (fW x).cell? ⟨w.heap.size + 1, 3, none⟩ = some (.int .i64 bs) := fun x => ((unhide K1).below (hb x)).c 3 (by simp)
  have c14 : ∀ x, (fW x).cell? ⟨w.heap.size + 1, 4, none⟩ = some (.int .i64 near) := fun x => ((unhide K1).below (hb x)).c 4 (by simp)
  have c15 : ∀ x, (fW x).cell? ⟨w.heap.size + 1, 5, none⟩ = some (.int .i64 wi) := fun x => ((unhide K1).below (hb x)).c 5 (by simp)
  have z0 : ∀ x, (fW x).frozen? ⟨w.heap.size, 3, none⟩ = false := fun x => ((unhide K0).below (hb x)).f 3 (by simp)
  clear hb hall
  obtain ⟨x0, h0⟩ := (unhide HA) W (Below.refl _ _)
  rw [h0]
  clear h0
  go_wp2_with (first | (go_at_call 77; refine (belQ (unhide HB) (unhide HA) (seenFrom_al _ _ _ _ _ _ _ _ _)).mono ?_; rintro e _ ⟨rfl, y, rfl⟩) | (go_at_call_of 84 (Value.agg #[.int .i64 ai, .int .i64 ah, .int .i64 ac, .int .i64 as_, .int .i64 near, .int .i64 wi]); refine (belQ (unhide HB) (unhide HA) (advised_is _ _ _ _ _ _ _ _ _ _ _ _ _ (unhide H1))).mono ?_; rintro e _ ⟨rfl, y, rfl⟩))
  refine wp_region_bel (fun w' h => (unhide HA) w' ((unhide HB _).trans (h.mono (unhide HB _).size))) (by kernel_rfl) (by kernel_rfl) ?_
  repeat (go_big_quiet_step (first | (go_at_call 77; exact belQ (unhide HB) (unhide HA) (seenFrom_al _ _ _ _ _ _ _ _ _)) | (go_at_call_of 84 (Value.agg #[.int .i64 ai, .int .i64 ah, .int .i64 ac, .int .i64 as_, .int .i64 near, .int .i64 wi]); exact belQ (unhide HB) (unhide HA) (advised_is _ _ _ _ _ _ _ _ _ _ _ _ _ (unhide H1)))))
  refine wpQuiet_nil ?_
  rintro _ ⟨y, rfl⟩
  go_wp2_with fail
  obtain ⟨V, hV⟩ : ∃ V, V = (fW y).setCell ⟨w.heap.size, 3, none⟩ (.int .i64 x1) := ⟨_, rfl⟩
  rw [← hV]
  have K0 : Hid (Blk V (w.heap.size) [.int .i64 ai, .int .i64 ah, .int .i64 ac, .int .i64 x1, .int .i64 near, .int .i64 wi]) := hide (by rw [hV]; exact ((unhide K0).below (unhide HB y)).set 3 (by simp) _)
  have K1 : Hid (Blk V (w.heap.size + 1) [.int .i64 bi, .int .i64 bh, .int .i64 bc, .int .i64 bs, .int .i64 near, .int .i64 wi]) := hide (by rw [hV]; exact ((unhide K1).below (unhide HB y)).other (by simp) _)
  have B0 : Hid (Below w.heap.size w V) := hide (by rw [hV]; exact ((unhide B0).trans ((unhide HB y).mono (unhide B0).size)).setCell (by simp) _)
  clear hV HA HB z0 c00 c01 c02 c03 c04 c05 c10 c11 c12 c13 c14 c15
  obtain ⟨ι, fW, _, hb, hall⟩ := belClass V
  have HB := hide hb
  have HA := hide hall
  have c00 : ∀ x, (fW x).cell? ⟨w.heap.size, 0, none⟩ = some (.int .i64 ai) := fun x => ((unhide K0).below (hb x)).c 0 (by simp)
  have c01 : ∀ x, (fW x).cell? ⟨w.heap.size, 1, none⟩ = some (.int .i64 ah) := fun x => ((unhide K0).below (hb x)).c 1 (by simp)
  have c02 : ∀ x, (fW x).cell? ⟨w.heap.size, 2, none⟩ = some (.int .i64 ac) := fun x => ((unhide K0).below (hb x)).c 2 (by simp)
  have c03 : ∀ x, (fW x).cell? ⟨w.heap.size, 3, none⟩ = some (.int .i64 x1) := fun x => ((unhide K0).below (hb x)).c 3 (by simp)
  have c04 : ∀ x, (fW x).cell? ⟨w.heap.size, 4, none⟩ = some (.int .i64 near) := fun x => ((unhide K0).below (hb x)).c 4 (by simp)
  have c05 : ∀ x, (fW x).cell? ⟨w.heap.size, 5, none⟩ = some (.int .i64 wi) := fun x => ((unhide K0).below (hb x)).c 5 (by simp)
  have c10 : ∀ x, (fW x).cell? ⟨w.heap.size + 1, 0, none⟩ = some (.int .i64 bi) := fun x => ((unhide K1).below (hb x)).c 0 (by simp)
  have c11 : ∀ x, (fW x).cell? ⟨w.heap.size + 1, 1, none⟩ = some (.int .i64 bh) := fun x => ((unhide K1).below (hb x)).c 1 (by simp)
  have c12 : ∀ x, (fW x).cell? ⟨w.heap.size + 1, 2, none⟩ = some (.int .i64 bc) := fun x => ((unhide K1).below (hb x)).c 2 (by simp)
  have c13 : ∀ x, (fW x).cell? ⟨w.heap.size + 1, 3, none⟩ = some (.int .i64 bs) := fun x => ((unhide K1).below (hb x)).c 3 (by simp)
  have c14 : ∀ x, (fW x).cell? ⟨w.heap.size + 1, 4, none⟩ = some (.int .i64 near) := fun x => ((unhide K1).below (hb x)).c 4 (by simp)
  have c15 : ∀ x, (fW x).cell? ⟨w.heap.size + 1, 5, none⟩ = some (.int .i64 wi) := fun x => ((unhide K1).below (hb x)).c 5 (by simp)
  clear hb hall
  obtain ⟨x0, h0⟩ := (unhide HA) V (Below.refl _ _)
  rw [h0]
  clear h0
  go_wp2_with (first | (go_at_call 77; refine (belQ (unhide HB) (unhide HA) (seenFrom_al _ _ _ _ _ _ _ _ _)).mono ?_; rintro e _ ⟨rfl, y, rfl⟩) | (go_at_call_of 84 (Value.agg #[.int .i64 bi, .int .i64 bh, .int .i64 bc, .int .i64 bs, .int .i64 near, .int .i64 wi]); refine (belQ (unhide HB) (unhide HA) (advised_is _ _ _ _ _ _ _ _ _ _ _ _ _ (unhide H2))).mono ?_; rintro e _ ⟨rfl, y, rfl⟩))
  repeat (refine wp_region_bel (fun w' h => (unhide HA) w' ((unhide HB _).trans (h.mono (unhide HB _).size))) (by kernel_rfl) (by kernel_rfl) ?_; (repeat (go_big_quiet_step (first | (go_at_call 77; exact belQ (unhide HB) (unhide HA) (seenFrom_al _ _ _ _ _ _ _ _ _)) | (go_at_call_of 84 (Value.agg #[.int .i64 bi, .int .i64 bh, .int .i64 bc, .int .i64 bs, .int .i64 near, .int .i64 wi]); exact belQ (unhide HB) (unhide HA) (advised_is _ _ _ _ _ _ _ _ _ _ _ _ _ (unhide H2)))))); refine wpQuiet_nil ?_; rintro _ ⟨y, rfl⟩; (first | go_wp2_with (first | (go_at_call 77; refine (belQ (unhide HB) (unhide HA) (seenFrom_al _ _ _ _ _ _ _ _ _)).mono ?_; rintro e _ ⟨rfl, y, rfl⟩) | (go_at_call_of 84 (Value.agg #[.int .i64 bi, .int .i64 bh, .int .i64 bc, .int .i64 bs, .int .i64 near, .int .i64 wi]); refine (belQ (unhide HB) (unhide HA) (advised_is _ _ _ _ _ _ _ _ _ _ _ _ _ (unhide H2))).mono ?_; rintro e _ ⟨rfl, y, rfl⟩)) | go_wp2))
  go_ret2
  exact ⟨rfl, (unhide B0).trans ((unhide HB _).mono (unhide B0).size)⟩

set_option maxRecDepth 20000 in
set_option maxHeartbeats 2000000 in
theorem turn_any {x1 x2 : Int} (ai ah ac as_ bi bh bc bs far cl near wi : Int) (w : World) (h1 : ps1 ai ah ac as_ bi bh bc bs far cl near wi = x1) (h2 : ps2 ai ah ac as_ bi bh bc bs far cl near wi = x2) :
    Calls Try.prog 79 #[.agg #[.int .i64 ai, .int .i64 ah, .int .i64 ac, .int .i64 as_, .int .i64 near, .int .i64 wi], .agg #[.int .i64 bi, .int .i64 bh, .int .i64 bc, .int .i64 bs, .int .i64 near, .int .i64 wi], .int .i64 far, .int .i64 cl] w fun e w' => e = .returned (.tuple #[.int .i64 x1, .int .i64 x2]) ∧ Below w.heap.size w w' := by
  by_cases h : x1 = 0
  · subst h
    exact turn_no ai ah ac as_ bi bh bc bs far cl near wi x2 w (hide h1) (hide (by rw [← h2, ps2, psS, h1]; rfl))
  · exact turn_yes ai ah ac as_ bi bh bc bs far cl near wi x1 x2 w h (hide h1) (hide (by rw [← h2, ps2, psS, h1, if_pos h]))

end Go.Proofs.Ytbaocifpifbldae
