/-
  What the program's Get16 answers, at every list of bytes: a code, and the word of a frame that is well, its bytes in memory of their own. Nothing that was there is written.
-/
import Derived.Test.YticdccdkjepifaaBuFlt
import Derived.Test.YticdccdkjepifaaMBuGetM
namespace Go.Proofs.Yticdccdkjepifaa
open Go.RowKit

set_option maxRecDepth 20000 in
set_option maxHeartbeats 1000000 in
theorem implGet16_no (ad : Option Addr) (len cap : Nat) (zs : List Int) (w : World) (hr : RowE 1 byC w ad len zs) (hz : ∀ i, i < len → 0 ≤ elAt zs i ∧ elAt zs i ≤ 255) (hcap : len ≤ cap) (h : ¬ gtC zs = 0) :
    Calls Try.prog 40 #[.slice ad len cap] w fun e w' => ∃ p q, e = .returned (.tuple #[.agg #[.int .i64 (gtL zs), .int .i64 (gtS zs), .slice p (gtD zs).length q], .int .i64 (gtC zs)]) ∧ OwnE 1 byC w' w.heap.size 5 (.slice p (gtD zs).length q) (gtD zs) ∧ Below w.heap.size w w' := by
  have hlen := hr.len_eq
  have hs := hr.small
  have HR := hide hr
  clear hr
  subst hlen
  obtain ⟨C, hC⟩ : ∃ C, gtC zs = C := ⟨_, rfl⟩
  have HE := hide hC
  rw [hC] at h
  rw [(gt_no hC h).1, (gt_no hC h).2.1, (gt_no hC h).2.2, hC]
  have h' : (C != 0) = true := by simpa using h
  clear hC
  go_enter Try.func40, Try.ntmps40
  go_wp2_with fail
  obtain ⟨W, hW⟩ : ∃ W, W = (w.alloc (Obj.cells #[.int .i64 0, .int .i64 0, .slice none 0 0] 50)) := ⟨_, rfl⟩
  rw [← hW]
  have K0 : Hid (Blk W (w.heap.size) [.int .i64 0, .int .i64 0, .slice none 0 0]) := hide (by rw [hW]; exact Blk.new _ _)
  have B0 : Hid (Below w.heap.size w W) := hide (by rw [hW]; exact (by repeat (first | exact Below.refl _ _ | refine Below.alloc ?_ (by simp; try omega) _ | refine Below.setCell ?_ (by simp; try omega) _ | refine taDr ?_ _)))
  clear hW
  obtain ⟨ι, fW, _, hb, hall⟩ := belClass W
  have HB := hide hb
  have HA := hide hall
  have c00 : ∀ x, (fW x).cell? ⟨w.heap.size, 0, none⟩ = some (.int .i64 0) := fun x => ((unhide K0).below (hb x)).c 0 (by simp)
  have c01 : ∀ x, (fW x).cell? ⟨w.heap.size, 1, none⟩ = some (.int .i64 0) := fun x => ((unhide K0).below (hb x)).c 1 (by simp)
  have c02 : ∀ x, (fW x).cell? ⟨w.heap.size, 2, none⟩ = some (.slice none 0 0) := fun x => ((unhide K0).below (hb x)).c 2 (by simp)
  have z0 : ∀ x, (fW x).frozen? ⟨w.heap.size, 0, none⟩ = false := fun x => ((unhide K0).below (hb x)).f 0 (by simp)
  have z1 : ∀ x, (fW x).frozen? ⟨w.heap.size, 1, none⟩ = false := fun x => ((unhide K0).below (hb x)).f 1 (by simp)
  have z2 : ∀ x, (fW x).frozen? ⟨w.heap.size, 2, none⟩ = false := fun x => ((unhide K0).below (hb x)).f 2 (by simp)
  clear hb hall
  obtain ⟨x0, h0⟩ := (unhide HA) W (Below.refl _ _)
  rw [h0]
  clear h0
  go_wp2_with (first | (go_at_call 55; refine (belQ (unhide HB) (unhide HA) (frameFault_is _ _ _ zs _ ((unhide HR).below ((unhide B0).trans ((unhide HB _).mono (unhide B0).size))) hz hcap (unhide HE))).mono ?_; rintro e _ ⟨rfl, y, rfl⟩))
  repeat (refine wp_region_bel (fun w' h => (unhide HA) w' ((unhide HB _).trans (h.mono (unhide HB _).size))) (by kernel_rfl) (by kernel_rfl) ?_; (repeat (go_big_quiet_step (first | (go_at_call 55; exact belQ (unhide HB) (unhide HA) (frameFault_is _ _ _ zs _ ((unhide HR).below ((unhide B0).trans ((unhide HB _).mono (unhide B0).size))) hz hcap (unhide HE)))))); refine wpQuiet_nil ?_; rintro _ ⟨y, rfl⟩; (first | go_wp2_with (first | (go_at_call 55; refine (belQ (unhide HB) (unhide HA) (frameFault_is _ _ _ zs _ ((unhide HR).below ((unhide B0).trans ((unhide HB _).mono (unhide B0).size))) hz hcap (unhide HE))).mono ?_; rintro e _ ⟨rfl, y, rfl⟩)) | go_wp2))
  exact bodyPost_ret (results_cellB (vs := [.int .i64 0, .int .i64 0, .slice none 0 0]) rfl Try.isAgg50 Try.sizeOf50 rfl (((((unhide K0).below (unhide HB _)).set 0 (by simp) _).set 1 (by simp) _).set 2 (by simp) _) rfl) rfl ⟨none, 0, rfl, ownE_nl _ _ _, (((((unhide B0).trans ((unhide HB _).mono (unhide B0).size)).setCell (p := ⟨w.heap.size, 0, none⟩) (by simp) _).setCell (p := ⟨w.heap.size, 1, none⟩) (by simp) _).setCell (p := ⟨w.heap.size, 2, none⟩) (by simp) _)⟩

set_option maxRecDepth 20000 in
set_option maxHeartbeats 1000000 in
theorem implGet16_yes (ad : Option Addr) (len cap : Nat) (zs : List Int) (w : World) (hr : RowE 1 byC w ad len zs) (hz : ∀ i, i < len → 0 ≤ elAt zs i ∧ elAt zs i ≤ 255) (hcap : len ≤ cap) (h : gtC zs = 0) :
    Calls Try.prog 40 #[.slice ad len cap] w fun e w' => ∃ p q, e = .returned (.tuple #[.agg #[.int .i64 (gtL zs), .int .i64 (gtS zs), .slice p (gtD zs).length q], .int .i64 (gtC zs)]) ∧ OwnE 1 byC w' w.heap.size 5 (.slice p (gtD zs).length q) (gtD zs) ∧ Below w.heap.size w w' := by
  have hlen := hr.len_eq
  have hs := hr.small
  have HR := hide hr
  clear hr
  subst hlen
  have HE := hide h
  have HG : Hid (gtL zs = elAt zs 0 ∧ gtS zs = elAt zs 1 ∧ gtD zs = (zs.drop 3).take (zs.length - 4)) := hide (by simp [gtL, gtS, gtD, h])
  rw [(unhide HG).1, (unhide HG).2.1, (unhide HG).2.2, h]
  obtain ⟨f1, f2, f3, f4, f5⟩ := gt_facts h
  clear f5 f4 h
  obtain ⟨K, hK⟩ : ∃ K, zs.length - 4 = K := ⟨_, rfl⟩
  obtain ⟨N, hN⟩ : ∃ N, zs.length - 1 = N := ⟨_, rfl⟩
  rw [hK]
  have hsub : (zs.length : Int) - 1 = (N : Int) := by omega
  have hNK : N - 3 = K := by omega
  have hkl : 3 + K ≤ zs.length := by omega
  have hK32 : K ≤ 32 := by omega
  clear f3 f2
  have hc4 : ¬ cap = 3 := by omega
  have hc3 : (3 : Int) ≤ (N : Int) := by omega
  have hNc : (N : Int) ≤ (cap : Int) := by omega
  have b0 := hz 0 (by omega)
  have b1 := hz 1 (by omega)
  rcases (unhide HR).open1 with ⟨q0, _⟩ | ⟨bb, off, rfl, _, hcs⟩
  · omega
  have HC0 : Hid (w.cell? ⟨bb, off, none⟩ = some (.int .u8 (elAt zs 0))) := hide (hcs 0 (by omega))
  have HC1 : Hid (w.cell? ⟨bb, off + 1, none⟩ = some (.int .u8 (elAt zs 1))) := hide (hcs 1 (by omega))
  have HKK := hide hK
  clear hcs hK hN
  have hat : ∀ W, (Instr.arrayAt 172 (.slice (some ⟨bb, off, none⟩) zs.length cap)).run Try.prog W = .ok (.pointer (some ⟨bb, off, none⟩)) W := fun W => run_arrayAt W 172 _ 4 _ zs.length cap Try.underlying172 (by omega)
  go_enter Try.func40, Try.ntmps40
  go_wp2_with fail
  obtain ⟨W, hW⟩ : ∃ W, W = (w.alloc (Obj.cells #[.int .i64 0, .int .i64 0, .slice none 0 0] 50)) := ⟨_, rfl⟩
  rw [← hW]
  have K0 : Hid (Blk W (w.heap.size) [.int .i64 0, .int .i64 0, .slice none 0 0]) := hide (by rw [hW]; exact Blk.new _ _)
  have B0 : Hid (Below w.heap.size w W) := hide (by rw [hW]; exact (by repeat (first | exact Below.refl _ _ | refine Below.alloc ?_ (by simp; try omega) _ | refine Below.setCell ?_ (by simp; try omega) _ | refine taDr ?_ _)))
  clear hW
  obtain ⟨ι, fW, _, hb, hall⟩ := belClass W
  have HB := hide hb
  have HA := hide hall
  have c00 : ∀ x, (fW x).cell? ⟨w.heap.size, 0, none⟩ = some (.int .i64 0) := fun x => ((unhide K0).below (hb x)).c 0 (by simp)
  have c01 : ∀ x, (fW x).cell? ⟨w.heap.size, 1, none⟩ = some (.int .i64 0) := fun x => ((unhide K0).below (hb x)).c 1 (by simp)
  have c02 : ∀ x, (fW x).cell? ⟨w.heap.size, 2, none⟩ = some (.slice none 0 0) := fun x => ((unhide K0).below (hb x)).c 2 (by simp)
  have z0 : ∀ x, (fW x).frozen? ⟨w.heap.size, 0, none⟩ = false := fun x => ((unhide K0).below (hb x)).f 0 (by simp)
  have z1 : ∀ x, (fW x).frozen? ⟨w.heap.size, 1, none⟩ = false := fun x => ((unhide K0).below (hb x)).f 1 (by simp)
  have z2 : ∀ x, (fW x).frozen? ⟨w.heap.size, 2, none⟩ = false := fun x => ((unhide K0).below (hb x)).f 2 (by simp)
  clear hb hall
  obtain ⟨x0, h0⟩ := (unhide HA) W (Below.refl _ _)
  rw [h0]
  clear h0
  have HBX : Hid (∀ x, Below w.heap.size w ((fW x).alloc (Obj.cells #[] 5))) := hide (fun x => (unhide B0).trans ((belAl (unhide HB x) _).mono (unhide B0).size))
  have HO : Hid (∀ x, OwnE 1 byC ((fW x).alloc (Obj.cells #[] 5)) w.heap.size 5 (.slice (some ⟨(fW x).heap.size, 0, none⟩) 0 0) []) := hide (fun x => byE_lit (fW x) [] (Nat.le_trans (unhide B0).size (unhide HB x).size) (by simp))
  have HKB : Hid (∀ x, Blk ((fW x).alloc (Obj.cells #[] 5)) w.heap.size [.int .i64 0, .int .i64 0, .slice none 0 0] ∧ (fW x).heap.size ≠ w.heap.size) := hide (fun x => ⟨((unhide K0).below (unhide HB x)).alloc _, by have := ((unhide K0).below (unhide HB x)).lt; omega⟩)
  go_wp2_with (first | (at_builtin; refine wpList_app_by rfl _ _ rfl (unhide HO _) rfl rfl (some ⟨bb, off + 3, none⟩) K (cap - 3) ((zs.drop 3).take K) rfl (rowE_dropB ((unhide HR).below (unhide HBX _)) 3 K (by omega)) (by omega) (unhide HBX _).size ?_; intro g9 c9 w9 o9 gr9 hg9) | (go_at_call 55; refine (belQ (unhide HB) (unhide HA) (frameFault_is _ _ _ zs _ ((unhide HR).below ((unhide B0).trans ((unhide HB _).mono (unhide B0).size))) hz hcap (unhide HE))).mono ?_; rintro e _ ⟨rfl, y, rfl⟩))
  have BB := hide ((unhide HBX y).grown gr9 (unhide HBX y).size (fun q hq => by cases hq; exact Nat.le_trans (unhide B0).size (unhide HB y).size))
  have KR := hide (((unhide HKB) y).1.apart gr9 (fun e => ((unhide HKB) y).2 (Option.some.inj e).symm))
  have HGN : Hid (g9 ≠ w.heap.size) := hide (by have := ((unhide HKB) y).2; have := ((unhide HKB) y).1.lt; omega)
  rw [Nat.zero_add] at *
  have HZ : Hid (OwnE 1 byC w9 w.heap.size 5 (.slice (some ⟨g9, 0, none⟩) K c9) ((zs.drop 3).take K)) := hide (by rw [List.nil_append] at o9; exact o9)
  clear o9 gr9 hg9 HBX HO HKB
  have m0 : w9.cell? ⟨bb, off, none⟩ = some (.int .u8 (elAt zs 0)) := ((unhide BB).cell (block_lt_of_cell (unhide HC0))).trans (unhide HC0)
  have m1 : w9.cell? ⟨bb, off + 1, none⟩ = some (.int .u8 (elAt zs 1)) := ((unhide BB).cell (block_lt_of_cell (unhide HC1))).trans (unhide HC1)
  have y0 : w9.cell? ⟨w.heap.size, 0, none⟩ = some (.int .i64 0) := (unhide KR).c 0 (by simp)
  have f0' : w9.frozen? ⟨w.heap.size, 0, none⟩ = false := (unhide KR).f 0 (by simp)
  have y1 : w9.cell? ⟨w.heap.size, 1, none⟩ = some (.int .i64 0) := (unhide KR).c 1 (by simp)
  have f1' : w9.frozen? ⟨w.heap.size, 1, none⟩ = false := (unhide KR).f 1 (by simp)
  have y2 : w9.cell? ⟨w.heap.size, 2, none⟩ = some (.slice none 0 0) := (unhide KR).c 2 (by simp)
  have f2' : w9.frozen? ⟨w.heap.size, 2, none⟩ = false := (unhide KR).f 2 (by simp)
  go_region
  go_wp2_with fail
  have hnb : (Value.slice (some ⟨g9, 0, none⟩) K c9).ownBlock ≠ some w.heap.size := fun e => (unhide HGN) (Option.some.inj e)
  have hdl : ((zs.drop 3).take K).length = K := by have := unhide HKK; simp; omega
  exact bodyPost_ret (results_cellB (vs := [.int .i64 (elAt zs 0), .int .i64 (elAt zs 1), .slice (some ⟨g9, 0, none⟩) K c9]) (x := .int .i64 0) rfl Try.isAgg50 Try.sizeOf50 (by kernel_rfl) (((((unhide KR).drewN 1).set 0 (by simp) _).set 1 (by simp) _).set 2 (by simp) _) (by kernel_rfl)) rfl ⟨some ⟨g9, 0, none⟩, c9, by rw [hdl], by rw [hdl]; exact (((((unhide HZ).below (bel0d 1)).set_other (S := w.heap.size) (o := 0) _ hnb).set_other (S := w.heap.size) (o := 1) _ hnb).set_other (S := w.heap.size) (o := 2) _ hnb), (((((unhide BB).trans (bel0d' 1)).setCell (p := ⟨w.heap.size, 0, none⟩) (Nat.le_refl _) _).setCell (p := ⟨w.heap.size, 1, none⟩) (Nat.le_refl _) _).setCell (p := ⟨w.heap.size, 2, none⟩) (Nat.le_refl _) _)⟩

theorem implGet16_row (ad : Option Addr) (len cap : Nat) (zs : List Int) (w : World) (hr : RowE 1 byC w ad len zs) (hz : ∀ i, i < len → 0 ≤ elAt zs i ∧ elAt zs i ≤ 255) (hcap : len ≤ cap) : Calls Try.prog 40 #[.slice ad len cap] w fun e w' => ∃ p q, e = .returned (.tuple #[.agg #[.int .i64 (gtL zs), .int .i64 (gtS zs), .slice p (gtD zs).length q], .int .i64 (gtC zs)]) ∧ OwnE 1 byC w' w.heap.size 5 (.slice p (gtD zs).length q) (gtD zs) ∧ Below w.heap.size w w' := by
  by_cases h : gtC zs = 0
  · exact implGet16_yes ad len cap zs w hr hz hcap h
  · exact implGet16_no ad len cap zs w hr hz hcap h

end Go.Proofs.Yticdccdkjepifaa
