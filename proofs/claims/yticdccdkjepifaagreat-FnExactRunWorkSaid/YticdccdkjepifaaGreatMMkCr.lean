/-
  The law's marks in a list of Carrys that a call has made: a text and numbers get the next numbers, and nothing else is written; the marks are found again. At lists of at most 1048576.
  The law's marks in a list of Defects that a call has made: a text and numbers get the next numbers, and nothing else is written; the marks are found again. At lists of at most 1048576.
  The law's marks in the lists of a Fleet that a call has made: nothing else is written, and the marks are found again. At lists of at most 1048576.
  The law's marks in the lists of a Fleet that a call has made: only the blocks of its lists have turned. At lists of at most 1048576.
-/
import Derived.Test.YticdccdkjepifaaGreatMTxCr
import Derived.Test.YticdccdkjepifaaGreatMOnly
import Derived.Deep.RegionHeld3
import Derived.Test.YticdccdkjepifaaGreatMFlTo

namespace Go.Proofs.YticdccdkjepifaaGreat
open Go Go.RowKit

def mkCr (n : Int) : Cr := ⟨mkT n, n + 1, n + 1 + 1⟩
theorem grownBCr {w w' : World} (h : Below w.heap.size w w') (row : Option Nat) : w.grownBy w' row := ⟨h.os, h.tape, h.output, h.size, fun k hk _ => h.block k hk⟩
theorem grownTCr {w w1 w2 : World} {row : Option Nat} (h : w.grownBy w1 row) (k : w1.grownBy w2 row) : w.grownBy w2 row := ⟨k.os.trans h.os, k.tape.trans h.tape, k.output.trans h.output, Nat.le_trans h.size k.size, fun i hi hne => (k.block i (Nat.lt_of_lt_of_le hi h.size) hne).trans (h.block i hi hne)⟩
set_option maxRecDepth 20000 in
set_option maxHeartbeats 2000000 in
theorem markCarryS_any (base : Nat) (a : Option Addr) (len c : Nat) (ps : List Cr) (k : Int) (w : World) (ho : OwnE 3 crC w base 92 (.slice a len c) ps) (hl : ps.length = len) (h1 : len ≤ 1048576) (hk0 : 1 ≤ k) (hk1 : k ≤ 900000000) :
    Calls Tryz.prog 39 #[.slice a len c, .int .i64 k] w fun e w' => e = .returned (.int .i64 (k + 3 * len)) ∧ OwnE 3 crC w' base 92 (.slice a len c) (markL mkCr 3 ps k len) ∧ w.grownBy w' (Value.slice a len c).ownBlock := by
  subst hl
  go_enter Tryz.func39, Tryz.ntmps39
  go_wp2
  go_loopw [1, 5] (fun kk i wr => ∃ j : Nat, j ≤ ps.length ∧ i = .int .i64 j ∧ kk = .int .i64 (k + 3 * j) ∧ OwnE 3 crC wr base 92 (.slice a ps.length c) (markL mkCr 3 ps k j) ∧ w.grownBy wr (Value.slice a ps.length c).ownBlock) (fun _ i _ => ps.length - (intOf i).toNat)
  case atStart => exact ⟨0, Nat.zero_le _, rfl, by simp, ho, grown_refl _ _⟩
  case round =>
    obtain ⟨j, hj, rfl, rfl, how, hgr⟩ := hrel
    have hml := markL_len mkCr 3 ps k j
    by_cases hlt : j < ps.length
    · have hi1 : (j : Int) < (ps.length : Int) := by omega
      have HOW := hide how
      have HGR := hide hgr
      have HML := hide hml
      clear how hgr hml
      go_wp2_with fail
      refine (markText_any _ _ (by omega) (by omega)).mono ?_
      rintro e w1 ⟨rfl, b1⟩
      have how := (unhide HOW).below b1
      have hgr := grownTCr (unhide HGR) (grownBCr b1 _)
      have hml := unhide HML
      rcases how.form with ⟨_, h0⟩ | ⟨g, c', hv, hg1, hg2, hc1, _⟩
      · rw [h0] at hml; simp at hml; omega
      simp only [Value.slice.injEq] at hv
      obtain ⟨rfl, hx, rfl⟩ := hv
      clear hx hc1
      have n0 : w1.cell? ⟨g, j * 3, none⟩ = some (.string (elAt (markL mkCr 3 ps k j) j).n) := (how.here hml j hlt 0 (by omega)).1
      have z0 : w1.frozen? ⟨g, j * 3, none⟩ = false := (how.here hml j hlt 0 (by omega)).2
      have n1 : w1.cell? ⟨g, j * 3 + 1, none⟩ = some (.int .i64 (elAt (markL mkCr 3 ps k j) j).m) := (how.here hml j hlt 1 (by omega)).1
      have z1 : w1.frozen? ⟨g, j * 3 + 1, none⟩ = false := (how.here hml j hlt 1 (by omega)).2
      have n2 : w1.cell? ⟨g, j * 3 + 2, none⟩ = some (.int .i64 (elAt (markL mkCr 3 ps k j) j).d) := (how.here hml j hlt 2 (by omega)).1
      have z2 : w1.frozen? ⟨g, j * 3 + 2, none⟩ = false := (how.here hml j hlt 2 (by omega)).2
      have o0 := how.setOne hml j hlt 0 (by omega) (.string (mkT (k + 3 * (j : Int)))) ⟨mkT (k + 3 * (j : Int)), (elAt (markL mkCr 3 ps k j) j).m, (elAt (markL mkCr 3 ps k j) j).d⟩ (by intro p hp; rcases (show p = 0 ∨ p = 1 ∨ p = 2 from by omega) with rfl | rfl | rfl <;> rfl)
      have o1 := o0.setMore hml hlt 1 (by omega) (.int .i64 (k + 3 * (j : Int) + 1)) ⟨mkT (k + 3 * (j : Int)), k + 3 * (j : Int) + 1, (elAt (markL mkCr 3 ps k j) j).d⟩ (by intro p hp; rcases (show p = 0 ∨ p = 1 ∨ p = 2 from by omega) with rfl | rfl | rfl <;> rfl)
      have o2 := o1.setMore hml hlt 2 (by omega) (.int .i64 (k + 3 * (j : Int) + 1 + 1)) ⟨mkT (k + 3 * (j : Int)), k + 3 * (j : Int) + 1, k + 3 * (j : Int) + 1 + 1⟩ (by intro p hp; rcases (show p = 0 ∨ p = 1 ∨ p = 2 from by omega) with rfl | rfl | rfl <;> rfl)
      have O3 : Hid (OwnE 3 crC (((w1.setCell ⟨g, j * 3, none⟩ (.string (mkT (k + 3 * (j : Int))))).setCell ⟨g, j * 3 + 1, none⟩ (.int .i64 (k + 3 * (j : Int) + 1))).setCell ⟨g, j * 3 + 2, none⟩ (.int .i64 (k + 3 * (j : Int) + 1 + 1))) base 92 (.slice (some ⟨g, 0, none⟩) ps.length c) (markL mkCr 3 ps k (j + 1))) := hide o2
      have G3 : Hid (w.grownBy (((w1.setCell ⟨g, j * 3, none⟩ (.string (mkT (k + 3 * (j : Int))))).setCell ⟨g, j * 3 + 1, none⟩ (.int .i64 (k + 3 * (j : Int) + 1))).setCell ⟨g, j * 3 + 2, none⟩ (.int .i64 (k + 3 * (j : Int) + 1 + 1))) (Value.slice (some ⟨g, 0, none⟩) ps.length c).ownBlock) := hide (grown_set (grown_set (grown_set hgr _ _) _ _) _ _)
      clear o0 o1 o2 how hgr hml b1
      go_wp2
      go_roundw
      case rel => exact ⟨j + 1, by omega, by go_num, by go_num, unhide O3, unhide G3⟩
      case measure => simp [intOf]; omega
    · have hkk : j = ps.length := by omega
      subst hkk
      have O := hide how
      have G := hide hgr
      clear how hgr hml
      go_wp2
      go_ret
      exact ⟨rfl, unhide O, unhide G⟩
set_option maxRecDepth 20000 in
set_option maxHeartbeats 2000000 in
theorem heldCarryS_any (base : Nat) (a : Option Addr) (len c : Nat) (ps : List Cr) (k : Int) (w : World) (ho : OwnE 3 crC w base 92 (.slice a len c) (markL mkCr 3 ps k len)) (hl : ps.length = len) (h1 : len ≤ 1048576) (hk0 : 1 ≤ k) (hk1 : k ≤ 900000000) :
    Calls Tryz.prog 43 #[.slice a len c, .int .i64 k] w fun e w' => e = .returned (.int .i64 (k + 3 * len)) ∧ Below w.heap.size w w' := by
  subst hl
  have HO := hide (OwnE.row ho).open_
  clear ho
  go_enter Tryz.func43, Tryz.ntmps43
  go_wp2
  go_loopw [1, 5] (fun kk i wr => ∃ j : Nat, j ≤ ps.length ∧ i = .int .i64 j ∧ kk = .int .i64 (k + 3 * j) ∧ Below w.heap.size w wr) (fun _ i _ => ps.length - (intOf i).toNat)
  case atStart => exact ⟨0, Nat.zero_le _, rfl, by simp, Below.refl _ _⟩
  case round =>
    obtain ⟨j, hj, rfl, rfl, hbel⟩ := hrel
    have BW := hide hbel
    by_cases hlt : j < ps.length
    · rcases (unhide HO) with ⟨h0, _⟩ | ⟨bb, off, rfl, _, hc⟩
      · omega
      have hm := markL_at mkCr 3 ps k ps.length (Nat.le_refl _) j hlt
      obtain ⟨ι, fW, _, hcb, hcl⟩ := belClass wr
      have HB := hide hcb
      have HA := hide hcl
      obtain ⟨y0, hy0⟩ := hcl wr (Below.refl _ _)
      rw [hy0]
      have c0 : ∀ x, (fW x).cell? ⟨bb, off + j * 3, none⟩ = some (.string (mkT (k + 3 * (j : Int)))) := fun x => by have h := hc j hlt 0 (by omega); rw [hm] at h; exact ((hbel.trans ((hcb x).mono hbel.size)).cell (block_lt_of_cell h)).trans h
      have c1 : ∀ x, (fW x).cell? ⟨bb, off + j * 3 + 1, none⟩ = some (.int .i64 (k + 3 * (j : Int) + 1)) := fun x => by have h := hc j hlt 1 (by omega); rw [hm] at h; exact ((hbel.trans ((hcb x).mono hbel.size)).cell (block_lt_of_cell h)).trans h
      have c2 : ∀ x, (fW x).cell? ⟨bb, off + j * 3 + 2, none⟩ = some (.int .i64 (k + 3 * (j : Int) + 1 + 1)) := fun x => by have h := hc j hlt 2 (by omega); rw [hm] at h; exact ((hbel.trans ((hcb x).mono hbel.size)).cell (block_lt_of_cell h)).trans h
      have hi1 : (j : Int) < (ps.length : Int) := by omega
      clear hc hm hcb hcl hy0 hbel
      go_wp2_with fail
      repeat (refine wp_region_bel (fun w' h => (unhide HA) w' ((unhide HB _).trans (h.mono (unhide HB _).size))) (by kernel_rfl) (by kernel_rfl) ?_; (repeat (go_big_quiet_step (first | (go_at_call 41; exact belQ (unhide HB) (unhide HA) (markText_any _ _ (by omega) (by omega)))))); refine wpQuiet_nil ?_; rintro _ ⟨y, rfl⟩; (first | go_wp2_with fail | go_wp2))
      go_roundw
      case rel => exact ⟨j + 1, by omega, by go_num, by go_num, (unhide BW).trans ((unhide HB _).mono (unhide BW).size)⟩
      case measure => simp [intOf]; omega
    · have hkk : j = ps.length := by omega
      subst hkk
      clear hbel
      go_wp2
      go_ret
      exact ⟨rfl, unhide BW⟩

end Go.Proofs.YticdccdkjepifaaGreat

namespace Go.Proofs.YticdccdkjepifaaGreat
open Go Go.RowKit

def mkDf (n : Int) : Df := ⟨mkT n, n + 1, n + 1 + 1⟩
theorem grownBDf {w w' : World} (h : Below w.heap.size w w') (row : Option Nat) : w.grownBy w' row := ⟨h.os, h.tape, h.output, h.size, fun k hk _ => h.block k hk⟩
theorem grownTDf {w w1 w2 : World} {row : Option Nat} (h : w.grownBy w1 row) (k : w1.grownBy w2 row) : w.grownBy w2 row := ⟨k.os.trans h.os, k.tape.trans h.tape, k.output.trans h.output, Nat.le_trans h.size k.size, fun i hi hne => (k.block i (Nat.lt_of_lt_of_le hi h.size) hne).trans (h.block i hi hne)⟩
set_option maxRecDepth 20000 in
set_option maxHeartbeats 2000000 in
theorem markDefectS_any (base : Nat) (a : Option Addr) (len c : Nat) (ps : List Df) (k : Int) (w : World) (ho : OwnE 3 dfC w base 94 (.slice a len c) ps) (hl : ps.length = len) (h1 : len ≤ 1048576) (hk0 : 1 ≤ k) (hk1 : k ≤ 900000000) :
    Calls Tryz.prog 40 #[.slice a len c, .int .i64 k] w fun e w' => e = .returned (.int .i64 (k + 3 * len)) ∧ OwnE 3 dfC w' base 94 (.slice a len c) (markL mkDf 3 ps k len) ∧ w.grownBy w' (Value.slice a len c).ownBlock := by
  subst hl
  go_enter Tryz.func40, Tryz.ntmps40
  go_wp2
  go_loopw [1, 5] (fun kk i wr => ∃ j : Nat, j ≤ ps.length ∧ i = .int .i64 j ∧ kk = .int .i64 (k + 3 * j) ∧ OwnE 3 dfC wr base 94 (.slice a ps.length c) (markL mkDf 3 ps k j) ∧ w.grownBy wr (Value.slice a ps.length c).ownBlock) (fun _ i _ => ps.length - (intOf i).toNat)
  case atStart => exact ⟨0, Nat.zero_le _, rfl, by simp, ho, grown_refl _ _⟩
  case round =>
    obtain ⟨j, hj, rfl, rfl, how, hgr⟩ := hrel
    have hml := markL_len mkDf 3 ps k j
    by_cases hlt : j < ps.length
    · have hi1 : (j : Int) < (ps.length : Int) := by omega
      have HOW := hide how
      have HGR := hide hgr
      have HML := hide hml
      clear how hgr hml
      go_wp2_with fail
      refine (markText_any _ _ (by omega) (by omega)).mono ?_
      rintro e w1 ⟨rfl, b1⟩
      have how := (unhide HOW).below b1
      have hgr := grownTDf (unhide HGR) (grownBDf b1 _)
      have hml := unhide HML
      rcases how.form with ⟨_, h0⟩ | ⟨g, c', hv, hg1, hg2, hc1, _⟩
      · rw [h0] at hml; simp at hml; omega
      simp only [Value.slice.injEq] at hv
      obtain ⟨rfl, hx, rfl⟩ := hv
      clear hx hc1
      have n0 : w1.cell? ⟨g, j * 3, none⟩ = some (.string (elAt (markL mkDf 3 ps k j) j).n) := (how.here hml j hlt 0 (by omega)).1
      have z0 : w1.frozen? ⟨g, j * 3, none⟩ = false := (how.here hml j hlt 0 (by omega)).2
      have n1 : w1.cell? ⟨g, j * 3 + 1, none⟩ = some (.int .i64 (elAt (markL mkDf 3 ps k j) j).i) := (how.here hml j hlt 1 (by omega)).1
      have z1 : w1.frozen? ⟨g, j * 3 + 1, none⟩ = false := (how.here hml j hlt 1 (by omega)).2
      have n2 : w1.cell? ⟨g, j * 3 + 2, none⟩ = some (.int .i64 (elAt (markL mkDf 3 ps k j) j).s) := (how.here hml j hlt 2 (by omega)).1
      have z2 : w1.frozen? ⟨g, j * 3 + 2, none⟩ = false := (how.here hml j hlt 2 (by omega)).2
      have o0 := how.setOne hml j hlt 0 (by omega) (.string (mkT (k + 3 * (j : Int)))) ⟨mkT (k + 3 * (j : Int)), (elAt (markL mkDf 3 ps k j) j).i, (elAt (markL mkDf 3 ps k j) j).s⟩ (by intro p hp; rcases (show p = 0 ∨ p = 1 ∨ p = 2 from by omega) with rfl | rfl | rfl <;> rfl)
      have o1 := o0.setMore hml hlt 1 (by omega) (.int .i64 (k + 3 * (j : Int) + 1)) ⟨mkT (k + 3 * (j : Int)), k + 3 * (j : Int) + 1, (elAt (markL mkDf 3 ps k j) j).s⟩ (by intro p hp; rcases (show p = 0 ∨ p = 1 ∨ p = 2 from by omega) with rfl | rfl | rfl <;> rfl)
      have o2 := o1.setMore hml hlt 2 (by omega) (.int .i64 (k + 3 * (j : Int) + 1 + 1)) ⟨mkT (k + 3 * (j : Int)), k + 3 * (j : Int) + 1, k + 3 * (j : Int) + 1 + 1⟩ (by intro p hp; rcases (show p = 0 ∨ p = 1 ∨ p = 2 from by omega) with rfl | rfl | rfl <;> rfl)
      have O3 : Hid (OwnE 3 dfC (((w1.setCell ⟨g, j * 3, none⟩ (.string (mkT (k + 3 * (j : Int))))).setCell ⟨g, j * 3 + 1, none⟩ (.int .i64 (k + 3 * (j : Int) + 1))).setCell ⟨g, j * 3 + 2, none⟩ (.int .i64 (k + 3 * (j : Int) + 1 + 1))) base 94 (.slice (some ⟨g, 0, none⟩) ps.length c) (markL mkDf 3 ps k (j + 1))) := hide o2
      have G3 : Hid (w.grownBy (((w1.setCell ⟨g, j * 3, none⟩ (.string (mkT (k + 3 * (j : Int))))).setCell ⟨g, j * 3 + 1, none⟩ (.int .i64 (k + 3 * (j : Int) + 1))).setCell ⟨g, j * 3 + 2, none⟩ (.int .i64 (k + 3 * (j : Int) + 1 + 1))) (Value.slice (some ⟨g, 0, none⟩) ps.length c).ownBlock) := hide (grown_set (grown_set (grown_set hgr _ _) _ _) _ _)
      clear o0 o1 o2 how hgr hml b1
      go_wp2
      go_roundw
      case rel => exact ⟨j + 1, by omega, by go_num, by go_num, unhide O3, unhide G3⟩
      case measure => simp [intOf]; omega
    · have hkk : j = ps.length := by omega
      subst hkk
      have O := hide how
      have G := hide hgr
      clear how hgr hml
      go_wp2
      go_ret
      exact ⟨rfl, unhide O, unhide G⟩
set_option maxRecDepth 20000 in
set_option maxHeartbeats 2000000 in
theorem heldDefectS_any (base : Nat) (a : Option Addr) (len c : Nat) (ps : List Df) (k : Int) (w : World) (ho : OwnE 3 dfC w base 94 (.slice a len c) (markL mkDf 3 ps k len)) (hl : ps.length = len) (h1 : len ≤ 1048576) (hk0 : 1 ≤ k) (hk1 : k ≤ 900000000) :
    Calls Tryz.prog 44 #[.slice a len c, .int .i64 k] w fun e w' => e = .returned (.int .i64 (k + 3 * len)) ∧ Below w.heap.size w w' := by
  subst hl
  have HO := hide (OwnE.row ho).open_
  clear ho
  go_enter Tryz.func44, Tryz.ntmps44
  go_wp2
  go_loopw [1, 5] (fun kk i wr => ∃ j : Nat, j ≤ ps.length ∧ i = .int .i64 j ∧ kk = .int .i64 (k + 3 * j) ∧ Below w.heap.size w wr) (fun _ i _ => ps.length - (intOf i).toNat)
  case atStart => exact ⟨0, Nat.zero_le _, rfl, by simp, Below.refl _ _⟩
  case round =>
    obtain ⟨j, hj, rfl, rfl, hbel⟩ := hrel
    have BW := hide hbel
    by_cases hlt : j < ps.length
    · rcases (unhide HO) with ⟨h0, _⟩ | ⟨bb, off, rfl, _, hc⟩
      · omega
      have hm := markL_at mkDf 3 ps k ps.length (Nat.le_refl _) j hlt
      obtain ⟨ι, fW, _, hcb, hcl⟩ := belClass wr
      have HB := hide hcb
      have HA := hide hcl
      obtain ⟨y0, hy0⟩ := hcl wr (Below.refl _ _)
      rw [hy0]
      have c0 : ∀ x, (fW x).cell? ⟨bb, off + j * 3, none⟩ = some (.string (mkT (k + 3 * (j : Int)))) := fun x => by have h := hc j hlt 0 (by omega); rw [hm] at h; exact ((hbel.trans ((hcb x).mono hbel.size)).cell (block_lt_of_cell h)).trans h
      have c1 : ∀ x, (fW x).cell? ⟨bb, off + j * 3 + 1, none⟩ = some (.int .i64 (k + 3 * (j : Int) + 1)) := fun x => by have h := hc j hlt 1 (by omega); rw [hm] at h; exact ((hbel.trans ((hcb x).mono hbel.size)).cell (block_lt_of_cell h)).trans h
      have c2 : ∀ x, (fW x).cell? ⟨bb, off + j * 3 + 2, none⟩ = some (.int .i64 (k + 3 * (j : Int) + 1 + 1)) := fun x => by have h := hc j hlt 2 (by omega); rw [hm] at h; exact ((hbel.trans ((hcb x).mono hbel.size)).cell (block_lt_of_cell h)).trans h
      have hi1 : (j : Int) < (ps.length : Int) := by omega
      clear hc hm hcb hcl hy0 hbel
      go_wp2_with fail
      repeat (refine wp_region_bel (fun w' h => (unhide HA) w' ((unhide HB _).trans (h.mono (unhide HB _).size))) (by kernel_rfl) (by kernel_rfl) ?_; (repeat (go_big_quiet_step (first | (go_at_call 41; exact belQ (unhide HB) (unhide HA) (markText_any _ _ (by omega) (by omega)))))); refine wpQuiet_nil ?_; rintro _ ⟨y, rfl⟩; (first | go_wp2_with fail | go_wp2))
      go_roundw
      case rel => exact ⟨j + 1, by omega, by go_num, by go_num, (unhide BW).trans ((unhide HB _).mono (unhide BW).size)⟩
      case measure => simp [intOf]; omega
    · have hkk : j = ps.length := by omega
      subst hkk
      clear hbel
      go_wp2
      go_ret
      exact ⟨rfl, unhide BW⟩

end Go.Proofs.YticdccdkjepifaaGreat

namespace Go.Proofs.YticdccdkjepifaaGreat
open Go.RowKit
set_option maxRecDepth 20000 in
set_option maxHeartbeats 2000000 in
theorem markFleet_own (nh nc nd : Int) (base : Nat) (a1 a2 a3 : Option Addr) (l1 c1 l2 c2 l3 c3 : Nat) (z1 : List Ts) (z2 : List Cr) (z3 : List Df) (k : Int) (w : World) (h : FlOwn w base a1 a2 a3 l1 c1 l2 c2 l3 c3 z1 z2 z3) (e1 : z1.length = l1) (q1 : l1 ≤ 1048576) (e2 : z2.length = l2) (q2 : l2 ≤ 1048576) (e3 : z3.length = l3) (q3 : l3 ≤ 1048576) (hk0 : 1 ≤ k) (hk1 : k ≤ 100000000) (b u : Nat) (hl : FlLies b u a1 a2 a3 l1 c1 l2 c2 l3 c3) (hu : u ≤ w.heap.size) :
    Calls Tryz.prog 13 #[.agg #[.slice a1 l1 c1, .slice a2 l2 c2, .slice a3 l3 c3, .int .i64 nh, .int .i64 nc, .int .i64 nd], .int .i64 k] w fun x w' => x = .returned (.int .i64 (k + 7 * (l1 : Int) + 3 * (l2 : Int) + 3 * (l3 : Int))) ∧ FlOwn w' base a1 a2 a3 l1 c1 l2 c2 l3 c3 (markL mkTs 7 z1 k l1) (markL mkCr 3 z2 (k + 7 * (l1 : Int)) l2) (markL mkDf 3 z3 (k + 7 * (l1 : Int) + 3 * (l2 : Int)) l3) ∧ Only b u w w' := by
  have LI := hide hl
  have P12 := hide h.p12
  have P13 := hide h.p13
  have P23 := hide h.p23
  have E1 := hide e1
  have E2 := hide e2
  have E3 := hide e3
  obtain ⟨W, hW⟩ : ∃ W, W = w.alloc (Obj.cells #[.slice a1 l1 c1, .slice a2 l2 c2, .slice a3 l3 c3, .int .i64 nh, .int .i64 nc, .int .i64 nd] 37) := ⟨_, rfl⟩
  have bW : Below w.heap.size w W := by rw [hW]; exact bel1 _
  have KP : Hid (Blk W w.heap.size [.slice a1 l1 c1, .slice a2 l2 c2, .slice a3 l3 c3, .int .i64 nh, .int .i64 nc, .int .i64 nd]) := hide (by rw [hW]; exact Blk.new _ _)
  have O1 := hide (h.o1.below bW)
  have O2 := hide (h.o2.below bW)
  have O3 := hide (h.o3.below bW)
  have BO : Hid (Only b u w W) := hide (Only.of_below bW)
  have HW := hide hW
  have HU := hide hu
  clear h hW bW hl hu e1 e2 e3
  go_enter Tryz.func13, Tryz.ntmps13
  go_wp2_with fail
  rw [← unhide HW]
  clear HW
  refine (markTaskS_any base _ _ _ z1 (k) _ (unhide O1) (unhide E1) q1 (by omega) (by omega)).mono ?_
  rintro x v1 ⟨rfl, om, gr⟩
  have OM1 := hide om
  have on := Only.of_row (lo := b) (hi := u) gr (fun g hg => (unhide LI).1 g hg)
  have O2 := hide ((unhide O2).far gr (fun g hg e => (unhide P12) g e.symm hg))
  have O3 := hide ((unhide O3).far gr (fun g hg e => (unhide P13) g e.symm hg))
  have BO := hide ((unhide BO).trans on)
  have KP := hide ((unhide KP).only on (.inr (unhide HU)))
  clear om on gr O1
  have m2 : v1.cell? ⟨w.heap.size, 1, none⟩ = some (.slice a2 l2 c2) := (unhide KP).c 1 (by simp)
  go_wp2_with fail
  clear m2
  refine (markCarryS_any base _ _ _ z2 (k + 7 * (l1 : Int)) _ (unhide O2) (unhide E2) q2 (by omega) (by omega)).mono ?_
  rintro x v2 ⟨rfl, om, gr⟩
  have OM2 := hide om
  have on := Only.of_row (lo := b) (hi := u) gr (fun g hg => (unhide LI).2.1 g hg)
  have OM1 := hide ((unhide OM1).far gr (fun g hg e => (unhide P12) g hg e.symm))
  have O3 := hide ((unhide O3).far gr (fun g hg e => (unhide P23) g e.symm hg))
  have BO := hide ((unhide BO).trans on)
  have KP := hide ((unhide KP).only on (.inr (unhide HU)))
  clear om on gr O2
  have m3 : v2.cell? ⟨w.heap.size, 2, none⟩ = some (.slice a3 l3 c3) := (unhide KP).c 2 (by simp)
  go_wp2_with fail
  clear m3
  refine (markDefectS_any base _ _ _ z3 (k + 7 * (l1 : Int) + 3 * (l2 : Int)) _ (unhide O3) (unhide E3) q3 (by omega) (by omega)).mono ?_
  rintro x v3 ⟨rfl, om, gr⟩
  have OM3 := hide om
  have on := Only.of_row (lo := b) (hi := u) gr (fun g hg => (unhide LI).2.2 g hg)
  have OM1 := hide ((unhide OM1).far gr (fun g hg e => (unhide P13) g hg e.symm))
  have OM2 := hide ((unhide OM2).far gr (fun g hg e => (unhide P23) g hg e.symm))
  have BO := hide ((unhide BO).trans on)
  have KP := hide ((unhide KP).only on (.inr (unhide HU)))
  clear om on gr O3
  go_wp2_with fail
  go_ret
  exact ⟨rfl, ⟨unhide OM1, unhide OM2, unhide OM3, unhide P12, unhide P13, unhide P23⟩, unhide BO⟩
set_option maxRecDepth 20000 in
set_option maxHeartbeats 2000000 in
theorem heldFleet_any (nh nc nd : Int) (base : Nat) (a1 a2 a3 : Option Addr) (l1 c1 l2 c2 l3 c3 : Nat) (z1 : List Ts) (z2 : List Cr) (z3 : List Df) (k : Int) (w : World) (h : FlOwn w base a1 a2 a3 l1 c1 l2 c2 l3 c3 (markL mkTs 7 z1 k l1) (markL mkCr 3 z2 (k + 7 * (l1 : Int)) l2) (markL mkDf 3 z3 (k + 7 * (l1 : Int) + 3 * (l2 : Int)) l3)) (e1 : z1.length = l1) (q1 : l1 ≤ 1048576) (e2 : z2.length = l2) (q2 : l2 ≤ 1048576) (e3 : z3.length = l3) (q3 : l3 ≤ 1048576) (hk0 : 1 ≤ k) (hk1 : k ≤ 100000000) :
    Calls Tryz.prog 16 #[.agg #[.slice a1 l1 c1, .slice a2 l2 c2, .slice a3 l3 c3, .int .i64 nh, .int .i64 nc, .int .i64 nd], .int .i64 k] w fun x w' => x = .returned (.int .i64 (k + 7 * (l1 : Int) + 3 * (l2 : Int) + 3 * (l3 : Int))) ∧ Below w.heap.size w w' := by
  have E1 := hide e1
  have E2 := hide e2
  have E3 := hide e3
  obtain ⟨W, hW⟩ : ∃ W, W = w.alloc (Obj.cells #[.slice a1 l1 c1, .slice a2 l2 c2, .slice a3 l3 c3, .int .i64 nh, .int .i64 nc, .int .i64 nd] 37) := ⟨_, rfl⟩
  have bW : Below w.heap.size w W := by rw [hW]; exact bel1 _
  have KP : Hid (Blk W w.heap.size [.slice a1 l1 c1, .slice a2 l2 c2, .slice a3 l3 c3, .int .i64 nh, .int .i64 nc, .int .i64 nd]) := hide (by rw [hW]; exact Blk.new _ _)
  have HO := hide (h.below bW)
  have BW := hide bW
  have HW := hide hW
  clear h hW bW e1 e2 e3
  go_enter Tryz.func16, Tryz.ntmps16
  go_wp2_with fail
  rw [← unhide HW]
  clear HW
  have n1 : ¬ (k + 7 * (l1 : Int) < 0) := by omega
  refine (heldTaskS_any base _ _ _ z1 (k) _ (unhide HO).o1 (unhide E1) q1 (by omega) (by omega)).mono ?_
  rintro x v1 ⟨rfl, b⟩
  have HO := hide ((unhide HO).below b)
  have KP := hide ((unhide KP).below b)
  have BW := hide ((unhide BW).trans (b.mono (unhide BW).size))
  clear b
  have m2 : v1.cell? ⟨w.heap.size, 1, none⟩ = some (.slice a2 l2 c2) := (unhide KP).c 1 (by simp)
  go_wp2_with fail
  clear m2
  have n2 : ¬ (k + 7 * (l1 : Int) + 3 * (l2 : Int) < 0) := by omega
  refine (heldCarryS_any base _ _ _ z2 (k + 7 * (l1 : Int)) _ (unhide HO).o2 (unhide E2) q2 (by omega) (by omega)).mono ?_
  rintro x v2 ⟨rfl, b⟩
  have HO := hide ((unhide HO).below b)
  have KP := hide ((unhide KP).below b)
  have BW := hide ((unhide BW).trans (b.mono (unhide BW).size))
  clear b
  have m3 : v2.cell? ⟨w.heap.size, 2, none⟩ = some (.slice a3 l3 c3) := (unhide KP).c 2 (by simp)
  go_wp2_with fail
  clear m3
  have n3 : ¬ (k + 7 * (l1 : Int) + 3 * (l2 : Int) + 3 * (l3 : Int) < 0) := by omega
  refine (heldDefectS_any base _ _ _ z3 (k + 7 * (l1 : Int) + 3 * (l2 : Int)) _ (unhide HO).o3 (unhide E3) q3 (by omega) (by omega)).mono ?_
  rintro x v3 ⟨rfl, b⟩
  have HO := hide ((unhide HO).below b)
  have KP := hide ((unhide KP).below b)
  have BW := hide ((unhide BW).trans (b.mono (unhide BW).size))
  clear b
  go_wp2_with fail
  go_ret
  exact ⟨rfl, unhide BW⟩

end Go.Proofs.YticdccdkjepifaaGreat

namespace Go.Proofs.YticdccdkjepifaaGreat
open Go.RowKit

/-- The blocks of a fleet's lists. -/
def flS (a1 a2 a3 : Option Addr) (l1 c1 l2 c2 l3 c3 : Nat) (k : Nat) : Prop := (Value.slice a1 l1 c1).ownBlock = some k ∨ (Value.slice a2 l2 c2).ownBlock = some k ∨ (Value.slice a3 l3 c3).ownBlock = some k
theorem FlOwn.in_ {w : World} {base : Nat} {a1 a2 a3 : Option Addr} {l1 c1 l2 c2 l3 c3 : Nat} {z1 : List Ts} {z2 : List Cr} {z3 : List Df} (h : FlOwn w base a1 a2 a3 l1 c1 l2 c2 l3 c3 z1 z2 z3) {k : Nat} (hk : flS a1 a2 a3 l1 c1 l2 c2 l3 c3 k) : base ≤ k ∧ k < w.heap.size := by
  rcases hk with hk | hk | hk
  · exact h.o1.lies k hk
  · exact h.o2.lies k hk
  · exact h.o3.lies k hk
theorem flS_top {w : World} {base : Nat} {a1 a2 a3 : Option Addr} {l1 c1 l2 c2 l3 c3 : Nat} {z1 : List Ts} {z2 : List Cr} {z3 : List Df} (h : FlOwn w base a1 a2 a3 l1 c1 l2 c2 l3 c3 z1 z2 z3) : ¬ flS a1 a2 a3 l1 c1 l2 c2 l3 c3 w.heap.size := fun e => by
  have := (h.in_ e).2
  omega
theorem FlOwn.aps {w : World} {base : Nat} {a1 a2 a3 : Option Addr} {l1 c1 l2 c2 l3 c3 : Nat} {z1 : List Ts} {z2 : List Cr} {z3 : List Df} {S : Nat → Prop} {w' : World} (h : FlOwn w base a1 a2 a3 l1 c1 l2 c2 l3 c3 z1 z2 z3) (k : Aps S w w') (hne : ∀ i, flS a1 a2 a3 l1 c1 l2 c2 l3 c3 i → ¬ S i) : FlOwn w' base a1 a2 a3 l1 c1 l2 c2 l3 c3 z1 z2 z3 :=
  ⟨h.o1.aps k (fun i hi => hne i (.inl hi)), h.o2.aps k (fun i hi => hne i (.inr (.inl hi))), h.o3.aps k (fun i hi => hne i (.inr (.inr hi))), h.p12, h.p13, h.p23⟩
set_option maxRecDepth 20000 in
set_option maxHeartbeats 2000000 in
theorem markFleet_aps (nh nc nd : Int) (base : Nat) (a1 a2 a3 : Option Addr) (l1 c1 l2 c2 l3 c3 : Nat) (z1 : List Ts) (z2 : List Cr) (z3 : List Df) (k : Int) (w : World) (h : FlOwn w base a1 a2 a3 l1 c1 l2 c2 l3 c3 z1 z2 z3) (e1 : z1.length = l1) (q1 : l1 ≤ 1048576) (e2 : z2.length = l2) (q2 : l2 ≤ 1048576) (e3 : z3.length = l3) (q3 : l3 ≤ 1048576) (hk0 : 1 ≤ k) (hk1 : k ≤ 100000000) :
    Calls Tryz.prog 13 #[.agg #[.slice a1 l1 c1, .slice a2 l2 c2, .slice a3 l3 c3, .int .i64 nh, .int .i64 nc, .int .i64 nd], .int .i64 k] w fun x w' => x = .returned (.int .i64 (k + 7 * (l1 : Int) + 3 * (l2 : Int) + 3 * (l3 : Int))) ∧ FlOwn w' base a1 a2 a3 l1 c1 l2 c2 l3 c3 (markL mkTs 7 z1 k l1) (markL mkCr 3 z2 (k + 7 * (l1 : Int)) l2) (markL mkDf 3 z3 (k + 7 * (l1 : Int) + 3 * (l2 : Int)) l3) ∧ Aps (flS a1 a2 a3 l1 c1 l2 c2 l3 c3) w w' := by
  have NS : Hid (¬ (flS a1 a2 a3 l1 c1 l2 c2 l3 c3) w.heap.size) := hide (flS_top h)
  have P12 := hide h.p12
  have P13 := hide h.p13
  have P23 := hide h.p23
  have E1 := hide e1
  have E2 := hide e2
  have E3 := hide e3
  obtain ⟨W, hW⟩ : ∃ W, W = w.alloc (Obj.cells #[.slice a1 l1 c1, .slice a2 l2 c2, .slice a3 l3 c3, .int .i64 nh, .int .i64 nc, .int .i64 nd] 37) := ⟨_, rfl⟩
  have bW : Below w.heap.size w W := by rw [hW]; exact bel1 _
  have KP : Hid (Blk W w.heap.size [.slice a1 l1 c1, .slice a2 l2 c2, .slice a3 l3 c3, .int .i64 nh, .int .i64 nc, .int .i64 nd]) := hide (by rw [hW]; exact Blk.new _ _)
  have O1 := hide (h.o1.below bW)
  have O2 := hide (h.o2.below bW)
  have O3 := hide (h.o3.below bW)
  have BO : Hid (Aps (flS a1 a2 a3 l1 c1 l2 c2 l3 c3) w W) := hide (Aps.of_below bW)
  have HW := hide hW
  clear h hW bW e1 e2 e3
  go_enter Tryz.func13, Tryz.ntmps13
  go_wp2_with fail
  rw [← unhide HW]
  clear HW
  refine (markTaskS_any base _ _ _ z1 (k) _ (unhide O1) (unhide E1) q1 (by omega) (by omega)).mono ?_
  rintro x v1 ⟨rfl, om, gr⟩
  have OM1 := hide om
  have on := Aps.of_row (S := flS a1 a2 a3 l1 c1 l2 c2 l3 c3) gr (fun g hg => .inl hg)
  have O2 := hide ((unhide O2).far gr (fun g hg e => (unhide P12) g e.symm hg))
  have O3 := hide ((unhide O3).far gr (fun g hg e => (unhide P13) g e.symm hg))
  have BO := hide ((unhide BO).trans on)
  have KP := hide ((unhide KP).aps on (unhide NS))
  clear om on gr O1
  have m2 : v1.cell? ⟨w.heap.size, 1, none⟩ = some (.slice a2 l2 c2) := (unhide KP).c 1 (by simp)
  go_wp2_with fail
  clear m2
  refine (markCarryS_any base _ _ _ z2 (k + 7 * (l1 : Int)) _ (unhide O2) (unhide E2) q2 (by omega) (by omega)).mono ?_
  rintro x v2 ⟨rfl, om, gr⟩
  have OM2 := hide om
  have on := Aps.of_row (S := flS a1 a2 a3 l1 c1 l2 c2 l3 c3) gr (fun g hg => .inr (.inl hg))
  have OM1 := hide ((unhide OM1).far gr (fun g hg e => (unhide P12) g hg e.symm))
  have O3 := hide ((unhide O3).far gr (fun g hg e => (unhide P23) g e.symm hg))
  have BO := hide ((unhide BO).trans on)
  have KP := hide ((unhide KP).aps on (unhide NS))
  clear om on gr O2
  have m3 : v2.cell? ⟨w.heap.size, 2, none⟩ = some (.slice a3 l3 c3) := (unhide KP).c 2 (by simp)
  go_wp2_with fail
  clear m3
  refine (markDefectS_any base _ _ _ z3 (k + 7 * (l1 : Int) + 3 * (l2 : Int)) _ (unhide O3) (unhide E3) q3 (by omega) (by omega)).mono ?_
  rintro x v3 ⟨rfl, om, gr⟩
  have OM3 := hide om
  have on := Aps.of_row (S := flS a1 a2 a3 l1 c1 l2 c2 l3 c3) gr (fun g hg => .inr (.inr hg))
  have OM1 := hide ((unhide OM1).far gr (fun g hg e => (unhide P13) g hg e.symm))
  have OM2 := hide ((unhide OM2).far gr (fun g hg e => (unhide P23) g hg e.symm))
  have BO := hide ((unhide BO).trans on)
  have KP := hide ((unhide KP).aps on (unhide NS))
  clear om on gr O3
  go_wp2_with fail
  go_ret
  exact ⟨rfl, ⟨unhide OM1, unhide OM2, unhide OM3, unhide P12, unhide P13, unhide P23⟩, unhide BO⟩

end Go.Proofs.YticdccdkjepifaaGreat
