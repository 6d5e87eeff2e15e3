/-
  The law's marks in a list of Tasks that a call has made: a text and numbers get the next numbers, and nothing else is written; the marks are found again. At lists of at most 1048576.
  The law's marks in a list of Carrys that a call has made: a text and numbers get the next numbers, and nothing else is written; the marks are found again. At lists of at most 1048576.
  The law's marks in a list of Defects that a call has made: a text and numbers get the next numbers, and nothing else is written; the marks are found again. At lists of at most 1048576.
-/
import Derived.Test.YtglefolkecimabcGreatTx1
import Derived.Test.YtglefolkecimabcGreatTc1
import Derived.Deep.RegionHeld3

namespace Go.Proofs.YtglefolkecimabcGreat
open Go Go.RowKit

def mkTs (n : Int) : Ts := ⟨mkT n, n + 1, n + 1 + 1, n + 1 + 1 + 1, n + 1 + 1 + 1 + 1, n + 1 + 1 + 1 + 1 + 1, n + 1 + 1 + 1 + 1 + 1 + 1⟩
theorem grownBTs {w w' : World} (h : Below w.heap.size w w') (row : Option Nat) : w.grownBy w' row := ⟨h.os, h.tape, h.output, h.size, fun k hk _ => h.block k hk⟩
theorem grownTTs {w w1 w2 : World} {row : Option Nat} (h : w.grownBy w1 row) (k : w1.grownBy w2 row) : w.grownBy w2 row := ⟨k.os.trans h.os, k.tape.trans h.tape, k.output.trans h.output, Nat.le_trans h.size k.size, fun i hi hne => (k.block i (Nat.lt_of_lt_of_le hi h.size) hne).trans (h.block i hi hne)⟩
set_option maxRecDepth 20000 in
set_option maxHeartbeats 2000000 in
theorem markTaskS_any (base : Nat) (a : Option Addr) (len c : Nat) (ps : List Ts) (k : Int) (w : World) (ho : OwnE 7 tsC w base 93 (.slice a len c) ps) (hl : ps.length = len) (h1 : len ≤ 1048576) (hk0 : 1 ≤ k) (hk1 : k ≤ 900000000) :
    Calls Tryz.prog 40 #[.slice a len c, .int .i64 k] w fun e w' => e = .returned (.int .i64 (k + 7 * len)) ∧ OwnE 7 tsC w' base 93 (.slice a len c) (markL mkTs 7 ps k len) ∧ w.grownBy w' (Value.slice a len c).ownBlock := by
  subst hl
  go_enter Tryz.func40, Tryz.ntmps40
  go_wp2
  go_loopw [1, 5] (fun kk i wr => ∃ j : Nat, j ≤ ps.length ∧ i = .int .i64 j ∧ kk = .int .i64 (k + 7 * j) ∧ OwnE 7 tsC wr base 93 (.slice a ps.length c) (markL mkTs 7 ps k j) ∧ w.grownBy wr (Value.slice a ps.length c).ownBlock) (fun _ i _ => ps.length - (intOf i).toNat)
  case atStart => exact ⟨0, Nat.zero_le _, rfl, by simp, ho, grown_refl _ _⟩
  case round =>
    obtain ⟨j, hj, rfl, rfl, how, hgr⟩ := hrel
    have hml := markL_len mkTs 7 ps k j
    by_cases hlt : j < ps.length
    · have hi1 : (j : Int) < (ps.length : Int) := by omega
      have HOW := hide how
      have HGR := hide hgr
      have HML := hide hml
      clear how hgr hml
      go_wp2_with fail
      refine (markText_any _ _ (by omega) (by omega)).mono ?_
      rintro e w1 ⟨rfl, b1⟩
      have how := (unhide HOW).below b1
      have hgr := grownTTs (unhide HGR) (grownBTs b1 _)
      have hml := unhide HML
      rcases how.form with ⟨_, h0⟩ | ⟨g, c', hv, hg1, hg2, hc1, _⟩
      · rw [h0] at hml; simp at hml; omega
      simp only [Value.slice.injEq] at hv
      obtain ⟨rfl, hx, rfl⟩ := hv
      clear hx hc1
      have n0 : w1.cell? ⟨g, j * 7, none⟩ = some (.string (elAt (markL mkTs 7 ps k j) j).nm) := (how.here hml j hlt 0 (by omega)).1
      have z0 : w1.frozen? ⟨g, j * 7, none⟩ = false := (how.here hml j hlt 0 (by omega)).2
      have n1 : w1.cell? ⟨g, j * 7 + 1, none⟩ = some (.int .i64 (elAt (markL mkTs 7 ps k j) j).h) := (how.here hml j hlt 1 (by omega)).1
      have z1 : w1.frozen? ⟨g, j * 7 + 1, none⟩ = false := (how.here hml j hlt 1 (by omega)).2
      have n2 : w1.cell? ⟨g, j * 7 + 2, none⟩ = some (.int .i64 (elAt (markL mkTs 7 ps k j) j).c) := (how.here hml j hlt 2 (by omega)).1
      have z2 : w1.frozen? ⟨g, j * 7 + 2, none⟩ = false := (how.here hml j hlt 2 (by omega)).2
      have n3 : w1.cell? ⟨g, j * 7 + 3, none⟩ = some (.int .i64 (elAt (markL mkTs 7 ps k j) j).d) := (how.here hml j hlt 3 (by omega)).1
      have z3 : w1.frozen? ⟨g, j * 7 + 3, none⟩ = false := (how.here hml j hlt 3 (by omega)).2
      have n4 : w1.cell? ⟨g, j * 7 + 4, none⟩ = some (.int .i64 (elAt (markL mkTs 7 ps k j) j).dh) := (how.here hml j hlt 4 (by omega)).1
      have z4 : w1.frozen? ⟨g, j * 7 + 4, none⟩ = false := (how.here hml j hlt 4 (by omega)).2
      have n5 : w1.cell? ⟨g, j * 7 + 5, none⟩ = some (.int .i64 (elAt (markL mkTs 7 ps k j) j).dc) := (how.here hml j hlt 5 (by omega)).1
      have z5 : w1.frozen? ⟨g, j * 7 + 5, none⟩ = false := (how.here hml j hlt 5 (by omega)).2
      have n6 : w1.cell? ⟨g, j * 7 + 6, none⟩ = some (.int .i64 (elAt (markL mkTs 7 ps k j) j).dd) := (how.here hml j hlt 6 (by omega)).1
      have z6 : w1.frozen? ⟨g, j * 7 + 6, none⟩ = false := (how.here hml j hlt 6 (by omega)).2
      have o0 := how.setOne hml j hlt 0 (by omega) (.string (mkT (k + 7 * (j : Int)))) ⟨mkT (k + 7 * (j : Int)), (elAt (markL mkTs 7 ps k j) j).h, (elAt (markL mkTs 7 ps k j) j).c, (elAt (markL mkTs 7 ps k j) j).d, (elAt (markL mkTs 7 ps k j) j).dh, (elAt (markL mkTs 7 ps k j) j).dc, (elAt (markL mkTs 7 ps k j) j).dd⟩ (by intro p hp; rcases (show p = 0 ∨ p = 1 ∨ p = 2 ∨ p = 3 ∨ p = 4 ∨ p = 5 ∨ p = 6 from by omega) with rfl | rfl | rfl | rfl | rfl | rfl | rfl <;> rfl)
      have o1 := o0.setMore hml hlt 1 (by omega) (.int .i64 (k + 7 * (j : Int) + 1)) ⟨mkT (k + 7 * (j : Int)), k + 7 * (j : Int) + 1, (elAt (markL mkTs 7 ps k j) j).c, (elAt (markL mkTs 7 ps k j) j).d, (elAt (markL mkTs 7 ps k j) j).dh, (elAt (markL mkTs 7 ps k j) j).dc, (elAt (markL mkTs 7 ps k j) j).dd⟩ (by intro p hp; rcases (show p = 0 ∨ p = 1 ∨ p = 2 ∨ p = 3 ∨ p = 4 ∨ p = 5 ∨ p = 6 from by omega) with rfl | rfl | rfl | rfl | rfl | rfl | rfl <;> rfl)
      have o2 := o1.setMore hml hlt 2 (by omega) (.int .i64 (k + 7 * (j : Int) + 1 + 1)) ⟨mkT (k + 7 * (j : Int)), k + 7 * (j : Int) + 1, k + 7 * (j : Int) + 1 + 1, (elAt (markL mkTs 7 ps k j) j).d, (elAt (markL mkTs 7 ps k j) j).dh, (elAt (markL mkTs 7 ps k j) j).dc, (elAt (markL mkTs 7 ps k j) j).dd⟩ (by intro p hp; rcases (show p = 0 ∨ p = 1 ∨ p = 2 ∨ p = 3 ∨ p = 4 ∨ p = 5 ∨ p = 6 from by omega) with rfl | rfl | rfl | rfl | rfl | rfl | rfl <;> rfl)
      have o3 := o2.setMore hml hlt 3 (by omega) (.int .i64 (k + 7 * (j : Int) + 1 + 1 + 1)) ⟨mkT (k + 7 * (j : Int)), k + 7 * (j : Int) + 1, k + 7 * (j : Int) + 1 + 1, k + 7 * (j : Int) + 1 + 1 + 1, (elAt (markL mkTs 7 ps k j) j).dh, (elAt (markL mkTs 7 ps k j) j).dc, (elAt (markL mkTs 7 ps k j) j).dd⟩ (by intro p hp; rcases (show p = 0 ∨ p = 1 ∨ p = 2 ∨ p = 3 ∨ p = 4 ∨ p = 5 ∨ p = 6 from by omega) with rfl | rfl | rfl | rfl | rfl | rfl | rfl <;> rfl)
      have o4 := o3.setMore hml hlt 4 (by omega) (.int .i64 (k + 7 * (j : Int) + 1 + 1 + 1 + 1)) ⟨mkT (k + 7 * (j : Int)), k + 7 * (j : Int) + 1, k + 7 * (j : Int) + 1 + 1, k + 7 * (j : Int) + 1 + 1 + 1, k + 7 * (j : Int) + 1 + 1 + 1 + 1, (elAt (markL mkTs 7 ps k j) j).dc, (elAt (markL mkTs 7 ps k j) j).dd⟩ (by intro p hp; rcases (show p = 0 ∨ p = 1 ∨ p = 2 ∨ p = 3 ∨ p = 4 ∨ p = 5 ∨ p = 6 from by omega) with rfl | rfl | rfl | rfl | rfl | rfl | rfl <;> rfl)
      have o5 := o4.setMore hml hlt 5 (by omega) (.int .i64 (k + 7 * (j : Int) + 1 + 1 + 1 + 1 + 1)) ⟨mkT (k + 7 * (j : Int)), k + 7 * (j : Int) + 1, k + 7 * (j : Int) + 1 + 1, k + 7 * (j : Int) + 1 + 1 + 1, k + 7 * (j : Int) + 1 + 1 + 1 + 1, k + 7 * (j : Int) + 1 + 1 + 1 + 1 + 1, (elAt (markL mkTs 7 ps k j) j).dd⟩ (by intro p hp; rcases (show p = 0 ∨ p = 1 ∨ p = 2 ∨ p = 3 ∨ p = 4 ∨ p = 5 ∨ p = 6 from by omega) with rfl | rfl | rfl | rfl | rfl | rfl | rfl <;> rfl)
      have o6 := o5.setMore hml hlt 6 (by omega) (.int .i64 (k + 7 * (j : Int) + 1 + 1 + 1 + 1 + 1 + 1)) ⟨mkT (k + 7 * (j : Int)), k + 7 * (j : Int) + 1, k + 7 * (j : Int) + 1 + 1, k + 7 * (j : Int) + 1 + 1 + 1, k + 7 * (j : Int) + 1 + 1 + 1 + 1, k + 7 * (j : Int) + 1 + 1 + 1 + 1 + 1, k + 7 * (j : Int) + 1 + 1 + 1 + 1 + 1 + 1⟩ (by intro p hp; rcases (show p = 0 ∨ p = 1 ∨ p = 2 ∨ p = 3 ∨ p = 4 ∨ p = 5 ∨ p = 6 from by omega) with rfl | rfl | rfl | rfl | rfl | rfl | rfl <;> rfl)
      have O3 : Hid (OwnE 7 tsC (((((((w1.setCell ⟨g, j * 7, none⟩ (.string (mkT (k + 7 * (j : Int))))).setCell ⟨g, j * 7 + 1, none⟩ (.int .i64 (k + 7 * (j : Int) + 1))).setCell ⟨g, j * 7 + 2, none⟩ (.int .i64 (k + 7 * (j : Int) + 1 + 1))).setCell ⟨g, j * 7 + 3, none⟩ (.int .i64 (k + 7 * (j : Int) + 1 + 1 + 1))).setCell ⟨g, j * 7 + 4, none⟩ (.int .i64 (k + 7 * (j : Int) + 1 + 1 + 1 + 1))).setCell ⟨g, j * 7 + 5, none⟩ (.int .i64 (k + 7 * (j : Int) + 1 + 1 + 1 + 1 + 1))).setCell ⟨g, j * 7 + 6, none⟩ (.int .i64 (k + 7 * (j : Int) + 1 + 1 + 1 + 1 + 1 + 1))) base 93 (.slice (some ⟨g, 0, none⟩) ps.length c) (markL mkTs 7 ps k (j + 1))) := hide o6
      have G3 : Hid (w.grownBy (((((((w1.setCell ⟨g, j * 7, none⟩ (.string (mkT (k + 7 * (j : Int))))).setCell ⟨g, j * 7 + 1, none⟩ (.int .i64 (k + 7 * (j : Int) + 1))).setCell ⟨g, j * 7 + 2, none⟩ (.int .i64 (k + 7 * (j : Int) + 1 + 1))).setCell ⟨g, j * 7 + 3, none⟩ (.int .i64 (k + 7 * (j : Int) + 1 + 1 + 1))).setCell ⟨g, j * 7 + 4, none⟩ (.int .i64 (k + 7 * (j : Int) + 1 + 1 + 1 + 1))).setCell ⟨g, j * 7 + 5, none⟩ (.int .i64 (k + 7 * (j : Int) + 1 + 1 + 1 + 1 + 1))).setCell ⟨g, j * 7 + 6, none⟩ (.int .i64 (k + 7 * (j : Int) + 1 + 1 + 1 + 1 + 1 + 1))) (Value.slice (some ⟨g, 0, none⟩) ps.length c).ownBlock) := hide (grown_set (grown_set (grown_set (grown_set (grown_set (grown_set (grown_set hgr _ _) _ _) _ _) _ _) _ _) _ _) _ _)
      clear o0 o1 o2 o3 o4 o5 o6 how hgr hml b1
      go_wp2
      go_roundw
      case rel => exact ⟨j + 1, by omega, by go_num, by go_num, unhide O3, unhide G3⟩
      case measure => simp [intOf]; omega
    · have hkk : j = ps.length := by omega
      subst hkk
      have O := hide how
      have G := hide hgr
      clear how hgr hml
      go_wp2
      go_ret
      exact ⟨rfl, unhide O, unhide G⟩
set_option maxRecDepth 20000 in
set_option maxHeartbeats 2000000 in
theorem heldTaskS_any (base : Nat) (a : Option Addr) (len c : Nat) (ps : List Ts) (k : Int) (w : World) (ho : OwnE 7 tsC w base 93 (.slice a len c) (markL mkTs 7 ps k len)) (hl : ps.length = len) (h1 : len ≤ 1048576) (hk0 : 1 ≤ k) (hk1 : k ≤ 900000000) :
    Calls Tryz.prog 43 #[.slice a len c, .int .i64 k] w fun e w' => e = .returned (.int .i64 (k + 7 * len)) ∧ Below w.heap.size w w' := by
  subst hl
  have HO := hide (OwnE.row ho).open_
  clear ho
  go_enter Tryz.func43, Tryz.ntmps43
  go_wp2
  go_loopw [1, 5] (fun kk i wr => ∃ j : Nat, j ≤ ps.length ∧ i = .int .i64 j ∧ kk = .int .i64 (k + 7 * j) ∧ Below w.heap.size w wr) (fun _ i _ => ps.length - (intOf i).toNat)
  case atStart => exact ⟨0, Nat.zero_le _, rfl, by simp, Below.refl _ _⟩
  case round =>
    obtain ⟨j, hj, rfl, rfl, hbel⟩ := hrel
    have BW := hide hbel
    by_cases hlt : j < ps.length
    · rcases (unhide HO) with ⟨h0, _⟩ | ⟨bb, off, rfl, _, hc⟩
      · omega
      have hm := markL_at mkTs 7 ps k ps.length (Nat.le_refl _) j hlt
      obtain ⟨ι, fW, _, hcb, hcl⟩ := belClass wr
      have HB := hide hcb
      have HA := hide hcl
      obtain ⟨y0, hy0⟩ := hcl wr (Below.refl _ _)
      rw [hy0]
      have c0 : ∀ x, (fW x).cell? ⟨bb, off + j * 7, none⟩ = some (.string (mkT (k + 7 * (j : Int)))) := fun x => by have h := hc j hlt 0 (by omega); rw [hm] at h; exact ((hbel.trans ((hcb x).mono hbel.size)).cell (block_lt_of_cell h)).trans h
      have c1 : ∀ x, (fW x).cell? ⟨bb, off + j * 7 + 1, none⟩ = some (.int .i64 (k + 7 * (j : Int) + 1)) := fun x => by have h := hc j hlt 1 (by omega); rw [hm] at h; exact ((hbel.trans ((hcb x).mono hbel.size)).cell (block_lt_of_cell h)).trans h
      have c2 : ∀ x, (fW x).cell? ⟨bb, off + j * 7 + 2, none⟩ = some (.int .i64 (k + 7 * (j : Int) + 1 + 1)) := fun x => by have h := hc j hlt 2 (by omega); rw [hm] at h; exact ((hbel.trans ((hcb x).mono hbel.size)).cell (block_lt_of_cell h)).trans h
      have c3 : ∀ x, (fW x).cell? ⟨bb, off + j * 7 + 3, none⟩ = some (.int .i64 (k + 7 * (j : Int) + 1 + 1 + 1)) := fun x => by have h := hc j hlt 3 (by omega); rw [hm] at h; exact ((hbel.trans ((hcb x).mono hbel.size)).cell (block_lt_of_cell h)).trans h
      have c4 : ∀ x, (fW x).cell? ⟨bb, off + j * 7 + 4, none⟩ = some (.int .i64 (k + 7 * (j : Int) + 1 + 1 + 1 + 1)) := fun x => by have h := hc j hlt 4 (by omega); rw [hm] at h; exact ((hbel.trans ((hcb x).mono hbel.size)).cell (block_lt_of_cell h)).trans h
      have c5 : ∀ x, (fW x).cell? ⟨bb, off + j * 7 + 5, none⟩ = some (.int .i64 (k + 7 * (j : Int) + 1 + 1 + 1 + 1 + 1)) := fun x => by have h := hc j hlt 5 (by omega); rw [hm] at h; exact ((hbel.trans ((hcb x).mono hbel.size)).cell (block_lt_of_cell h)).trans h
      have c6 : ∀ x, (fW x).cell? ⟨bb, off + j * 7 + 6, none⟩ = some (.int .i64 (k + 7 * (j : Int) + 1 + 1 + 1 + 1 + 1 + 1)) := fun x => by have h := hc j hlt 6 (by omega); rw [hm] at h; exact ((hbel.trans ((hcb x).mono hbel.size)).cell (block_lt_of_cell h)).trans h
      have hi1 : (j : Int) < (ps.length : Int) := by omega
      clear hc hm hcb hcl hy0 hbel
      go_wp2_with fail
      repeat (refine wp_region_bel (fun w' h => (unhide HA) w' ((unhide HB _).trans (h.mono (unhide HB _).size))) (by kernel_rfl) (by kernel_rfl) ?_; (repeat (go_big_quiet_step (first | (go_at_call 48; exact belQ (unhide HB) (unhide HA) (markText_any _ _ (by omega) (by omega)))))); refine wpQuiet_nil ?_; rintro _ ⟨y, rfl⟩; (first | go_wp2_with fail | go_wp2))
      go_roundw
      case rel => exact ⟨j + 1, by omega, by go_num, by go_num, (unhide BW).trans ((unhide HB _).mono (unhide BW).size)⟩
      case measure => simp [intOf]; omega
    · have hkk : j = ps.length := by omega
      subst hkk
      clear hbel
      go_wp2
      go_ret
      exact ⟨rfl, unhide BW⟩

end Go.Proofs.YtglefolkecimabcGreat

namespace Go.Proofs.YtglefolkecimabcGreat
open Go Go.RowKit

def mkCr (n : Int) : Cr := ⟨mkT n, n + 1, n + 1 + 1⟩
theorem grownBCr {w w' : World} (h : Below w.heap.size w w') (row : Option Nat) : w.grownBy w' row := ⟨h.os, h.tape, h.output, h.size, fun k hk _ => h.block k hk⟩
theorem grownTCr {w w1 w2 : World} {row : Option Nat} (h : w.grownBy w1 row) (k : w1.grownBy w2 row) : w.grownBy w2 row := ⟨k.os.trans h.os, k.tape.trans h.tape, k.output.trans h.output, Nat.le_trans h.size k.size, fun i hi hne => (k.block i (Nat.lt_of_lt_of_le hi h.size) hne).trans (h.block i hi hne)⟩
set_option maxRecDepth 20000 in
set_option maxHeartbeats 2000000 in
theorem markCarryS_any (base : Nat) (a : Option Addr) (len c : Nat) (ps : List Cr) (k : Int) (w : World) (ho : OwnE 3 crC w base 101 (.slice a len c) ps) (hl : ps.length = len) (h1 : len ≤ 1048576) (hk0 : 1 ≤ k) (hk1 : k ≤ 900000000) :
    Calls Tryz.prog 41 #[.slice a len c, .int .i64 k] w fun e w' => e = .returned (.int .i64 (k + 3 * len)) ∧ OwnE 3 crC w' base 101 (.slice a len c) (markL mkCr 3 ps k len) ∧ w.grownBy w' (Value.slice a len c).ownBlock := by
  subst hl
  go_enter Tryz.func41, Tryz.ntmps41
  go_wp2
  go_loopw [1, 5] (fun kk i wr => ∃ j : Nat, j ≤ ps.length ∧ i = .int .i64 j ∧ kk = .int .i64 (k + 3 * j) ∧ OwnE 3 crC wr base 101 (.slice a ps.length c) (markL mkCr 3 ps k j) ∧ w.grownBy wr (Value.slice a ps.length c).ownBlock) (fun _ i _ => ps.length - (intOf i).toNat)
  case atStart => exact ⟨0, Nat.zero_le _, rfl, by simp, ho, grown_refl _ _⟩
  case round =>
    obtain ⟨j, hj, rfl, rfl, how, hgr⟩ := hrel
    have hml := markL_len mkCr 3 ps k j
    by_cases hlt : j < ps.length
    · have hi1 : (j : Int) < (ps.length : Int) := by omega
      have HOW := hide how
      have HGR := hide hgr
      have HML := hide hml
      clear how hgr hml
      go_wp2_with fail
      refine (markText_any _ _ (by omega) (by omega)).mono ?_
      rintro e w1 ⟨rfl, b1⟩
      have how := (unhide HOW).below b1
      have hgr := grownTCr (unhide HGR) (grownBCr b1 _)
      have hml := unhide HML
      rcases how.form with ⟨_, h0⟩ | ⟨g, c', hv, hg1, hg2, hc1, _⟩
      · rw [h0] at hml; simp at hml; omega
      simp only [Value.slice.injEq] at hv
      obtain ⟨rfl, hx, rfl⟩ := hv
      clear hx hc1
      have n0 : w1.cell? ⟨g, j * 3, none⟩ = some (.string (elAt (markL mkCr 3 ps k j) j).n) := (how.here hml j hlt 0 (by omega)).1
      have z0 : w1.frozen? ⟨g, j * 3, none⟩ = false := (how.here hml j hlt 0 (by omega)).2
      have n1 : w1.cell? ⟨g, j * 3 + 1, none⟩ = some (.int .i64 (elAt (markL mkCr 3 ps k j) j).m) := (how.here hml j hlt 1 (by omega)).1
      have z1 : w1.frozen? ⟨g, j * 3 + 1, none⟩ = false := (how.here hml j hlt 1 (by omega)).2
      have n2 : w1.cell? ⟨g, j * 3 + 2, none⟩ = some (.int .i64 (elAt (markL mkCr 3 ps k j) j).d) := (how.here hml j hlt 2 (by omega)).1
      have z2 : w1.frozen? ⟨g, j * 3 + 2, none⟩ = false := (how.here hml j hlt 2 (by omega)).2
      have o0 := how.setOne hml j hlt 0 (by omega) (.string (mkT (k + 3 * (j : Int)))) ⟨mkT (k + 3 * (j : Int)), (elAt (markL mkCr 3 ps k j) j).m, (elAt (markL mkCr 3 ps k j) j).d⟩ (by intro p hp; rcases (show p = 0 ∨ p = 1 ∨ p = 2 from by omega) with rfl | rfl | rfl <;> rfl)
      have o1 := o0.setMore hml hlt 1 (by omega) (.int .i64 (k + 3 * (j : Int) + 1)) ⟨mkT (k + 3 * (j : Int)), k + 3 * (j : Int) + 1, (elAt (markL mkCr 3 ps k j) j).d⟩ (by intro p hp; rcases (show p = 0 ∨ p = 1 ∨ p = 2 from by omega) with rfl | rfl | rfl <;> rfl)
      have o2 := o1.setMore hml hlt 2 (by omega) (.int .i64 (k + 3 * (j : Int) + 1 + 1)) ⟨mkT (k + 3 * (j : Int)), k + 3 * (j : Int) + 1, k + 3 * (j : Int) + 1 + 1⟩ (by intro p hp; rcases (show p = 0 ∨ p = 1 ∨ p = 2 from by omega) with rfl | rfl | rfl <;> rfl)
      have O3 : Hid (OwnE 3 crC (((w1.setCell ⟨g, j * 3, none⟩ (.string (mkT (k + 3 * (j : Int))))).setCell ⟨g, j * 3 + 1, none⟩ (.int .i64 (k + 3 * (j : Int) + 1))).setCell ⟨g, j * 3 + 2, none⟩ (.int .i64 (k + 3 * (j : Int) + 1 + 1))) base 101 (.slice (some ⟨g, 0, none⟩) ps.length c) (markL mkCr 3 ps k (j + 1))) := hide o2
      have G3 : Hid (w.grownBy (((w1.setCell ⟨g, j * 3, none⟩ (.string (mkT (k + 3 * (j : Int))))).setCell ⟨g, j * 3 + 1, none⟩ (.int .i64 (k + 3 * (j : Int) + 1))).setCell ⟨g, j * 3 + 2, none⟩ (.int .i64 (k + 3 * (j : Int) + 1 + 1))) (Value.slice (some ⟨g, 0, none⟩) ps.length c).ownBlock) := hide (grown_set (grown_set (grown_set hgr _ _) _ _) _ _)
      clear o0 o1 o2 how hgr hml b1
      go_wp2
      go_roundw
      case rel => exact ⟨j + 1, by omega, by go_num, by go_num, unhide O3, unhide G3⟩
      case measure => simp [intOf]; omega
    · have hkk : j = ps.length := by omega
      subst hkk
      have O := hide how
      have G := hide hgr
      clear how hgr hml
      go_wp2
      go_ret
      exact ⟨rfl, unhide O, unhide G⟩
set_option maxRecDepth 20000 in
set_option maxHeartbeats 2000000 in
theorem heldCarryS_any (base : Nat) (a : Option Addr) (len c : Nat) (ps : List Cr) (k : Int) (w : World) (ho : OwnE 3 crC w base 101 (.slice a len c) (markL mkCr 3 ps k len)) (hl : ps.length = len) (h1 : len ≤ 1048576) (hk0 : 1 ≤ k) (hk1 : k ≤ 900000000) :
    Calls Tryz.prog 44 #[.slice a len c, .int .i64 k] w fun e w' => e = .returned (.int .i64 (k + 3 * len)) ∧ Below w.heap.size w w' := by
  subst hl
  have HO := hide (OwnE.row ho).open_
  clear ho
  go_enter Tryz.func44, Tryz.ntmps44
  go_wp2
  go_loopw [1, 5] (fun kk i wr => ∃ j : Nat, j ≤ ps.length ∧ i = .int .i64 j ∧ kk = .int .i64 (k + 3 * j) ∧ Below w.heap.size w wr) (fun _ i _ => ps.length - (intOf i).toNat)
  case atStart => exact ⟨0, Nat.zero_le _, rfl, by simp, Below.refl _ _⟩
  case round =>
    obtain ⟨j, hj, rfl, rfl, hbel⟩ := hrel
    have BW := hide hbel
    by_cases hlt : j < ps.length
    · rcases (unhide HO) with ⟨h0, _⟩ | ⟨bb, off, rfl, _, hc⟩
      · omega
      have hm := markL_at mkCr 3 ps k ps.length (Nat.le_refl _) j hlt
      obtain ⟨ι, fW, _, hcb, hcl⟩ := belClass wr
      have HB := hide hcb
      have HA := hide hcl
      obtain ⟨y0, hy0⟩ := hcl wr (Below.refl _ _)
      rw [hy0]
      have c0 : ∀ x, (fW x).cell? ⟨bb, off + j * 3, none⟩ = some (.string (mkT (k + 3 * (j : Int)))) := fun x => by have h := hc j hlt 0 (by omega); rw [hm] at h; exact ((hbel.trans ((hcb x).mono hbel.size)).cell (block_lt_of_cell h)).trans h
      have c1 : ∀ x, (fW x).cell? ⟨bb, off + j * 3 + 1, none⟩ = some (.int .i64 (k + 3 * (j : Int) + 1)) := fun x => by have h := hc j hlt 1 (by omega); rw [hm] at h; exact ((hbel.trans ((hcb x).mono hbel.size)).cell (block_lt_of_cell h)).trans h
      have c2 : ∀ x, (fW x).cell? ⟨bb, off + j * 3 + 2, none⟩ = some (.int .i64 (k + 3 * (j : Int) + 1 + 1)) := fun x => by have h := hc j hlt 2 (by omega); rw [hm] at h; exact ((hbel.trans ((hcb x).mono hbel.size)).cell (block_lt_of_cell h)).trans h
      have hi1 : (j : Int) < (ps.length : Int) := by omega
      clear hc hm hcb hcl hy0 hbel
      go_wp2_with fail
      repeat (refine wp_region_bel (fun w' h => (unhide HA) w' ((unhide HB _).trans (h.mono (unhide HB _).size))) (by kernel_rfl) (by kernel_rfl) ?_; (repeat (go_big_quiet_step (first | (go_at_call 48; exact belQ (unhide HB) (unhide HA) (markText_any _ _ (by omega) (by omega)))))); refine wpQuiet_nil ?_; rintro _ ⟨y, rfl⟩; (first | go_wp2_with fail | go_wp2))
      go_roundw
      case rel => exact ⟨j + 1, by omega, by go_num, by go_num, (unhide BW).trans ((unhide HB _).mono (unhide BW).size)⟩
      case measure => simp [intOf]; omega
    · have hkk : j = ps.length := by omega
      subst hkk
      clear hbel
      go_wp2
      go_ret
      exact ⟨rfl, unhide BW⟩

end Go.Proofs.YtglefolkecimabcGreat

namespace Go.Proofs.YtglefolkecimabcGreat
open Go Go.RowKit

def mkDf (n : Int) : Df := ⟨mkT n, n + 1, n + 1 + 1⟩
theorem grownBDf {w w' : World} (h : Below w.heap.size w w') (row : Option Nat) : w.grownBy w' row := ⟨h.os, h.tape, h.output, h.size, fun k hk _ => h.block k hk⟩
theorem grownTDf {w w1 w2 : World} {row : Option Nat} (h : w.grownBy w1 row) (k : w1.grownBy w2 row) : w.grownBy w2 row := ⟨k.os.trans h.os, k.tape.trans h.tape, k.output.trans h.output, Nat.le_trans h.size k.size, fun i hi hne => (k.block i (Nat.lt_of_lt_of_le hi h.size) hne).trans (h.block i hi hne)⟩
set_option maxRecDepth 20000 in
set_option maxHeartbeats 2000000 in
theorem markDefectS_any (base : Nat) (a : Option Addr) (len c : Nat) (ps : List Df) (k : Int) (w : World) (ho : OwnE 3 dfC w base 95 (.slice a len c) ps) (hl : ps.length = len) (h1 : len ≤ 1048576) (hk0 : 1 ≤ k) (hk1 : k ≤ 900000000) :
    Calls Tryz.prog 42 #[.slice a len c, .int .i64 k] w fun e w' => e = .returned (.int .i64 (k + 3 * len)) ∧ OwnE 3 dfC w' base 95 (.slice a len c) (markL mkDf 3 ps k len) ∧ w.grownBy w' (Value.slice a len c).ownBlock := by
  subst hl
  go_enter Tryz.func42, Tryz.ntmps42
  go_wp2
  go_loopw [1, 5] (fun kk i wr => ∃ j : Nat, j ≤ ps.length ∧ i = .int .i64 j ∧ kk = .int .i64 (k + 3 * j) ∧ OwnE 3 dfC wr base 95 (.slice a ps.length c) (markL mkDf 3 ps k j) ∧ w.grownBy wr (Value.slice a ps.length c).ownBlock) (fun _ i _ => ps.length - (intOf i).toNat)
  case atStart => exact ⟨0, Nat.zero_le _, rfl, by simp, ho, grown_refl _ _⟩
  case round =>
    obtain ⟨j, hj, rfl, rfl, how, hgr⟩ := hrel
    have hml := markL_len mkDf 3 ps k j
    by_cases hlt : j < ps.length
    · have hi1 : (j : Int) < (ps.length : Int) := by omega
      have HOW := hide how
      have HGR := hide hgr
      have HML := hide hml
      clear how hgr hml
      go_wp2_with fail
      refine (markText_any _ _ (by omega) (by omega)).mono ?_
      rintro e w1 ⟨rfl, b1⟩
      have how := (unhide HOW).below b1
      have hgr := grownTDf (unhide HGR) (grownBDf b1 _)
      have hml := unhide HML
      rcases how.form with ⟨_, h0⟩ | ⟨g, c', hv, hg1, hg2, hc1, _⟩
      · rw [h0] at hml; simp at hml; omega
      simp only [Value.slice.injEq] at hv
      obtain ⟨rfl, hx, rfl⟩ := hv
      clear hx hc1
      have n0 : w1.cell? ⟨g, j * 3, none⟩ = some (.string (elAt (markL mkDf 3 ps k j) j).n) := (how.here hml j hlt 0 (by omega)).1
      have z0 : w1.frozen? ⟨g, j * 3, none⟩ = false := (how.here hml j hlt 0 (by omega)).2
      have n1 : w1.cell? ⟨g, j * 3 + 1, none⟩ = some (.int .i64 (elAt (markL mkDf 3 ps k j) j).i) := (how.here hml j hlt 1 (by omega)).1
      have z1 : w1.frozen? ⟨g, j * 3 + 1, none⟩ = false := (how.here hml j hlt 1 (by omega)).2
      have n2 : w1.cell? ⟨g, j * 3 + 2, none⟩ = some (.int .i64 (elAt (markL mkDf 3 ps k j) j).s) := (how.here hml j hlt 2 (by omega)).1
      have z2 : w1.frozen? ⟨g, j * 3 + 2, none⟩ = false := (how.here hml j hlt 2 (by omega)).2
      have o0 := how.setOne hml j hlt 0 (by omega) (.string (mkT (k + 3 * (j : Int)))) ⟨mkT (k + 3 * (j : Int)), (elAt (markL mkDf 3 ps k j) j).i, (elAt (markL mkDf 3 ps k j) j).s⟩ (by intro p hp; rcases (show p = 0 ∨ p = 1 ∨ p = 2 from by omega) with rfl | rfl | rfl <;> rfl)
      have o1 := o0.setMore hml hlt 1 (by omega) (.int .i64 (k + 3 * (j : Int) + 1)) ⟨mkT (k + 3 * (j : Int)), k + 3 * (j : Int) + 1, (elAt (markL mkDf 3 ps k j) j).s⟩ (by intro p hp; rcases (show p = 0 ∨ p = 1 ∨ p = 2 from by omega) with rfl | rfl | rfl <;> rfl)
      have o2 := o1.setMore hml hlt 2 (by omega) (.int .i64 (k + 3 * (j : Int) + 1 + 1)) ⟨mkT (k + 3 * (j : Int)), k + 3 * (j : Int) + 1, k + 3 * (j : Int) + 1 + 1⟩ (by intro p hp; rcases (show p = 0 ∨ p = 1 ∨ p = 2 from by omega) with rfl | rfl | rfl <;> rfl)
      have O3 : Hid (OwnE 3 dfC (((w1.setCell ⟨g, j * 3, none⟩ (.string (mkT (k + 3 * (j : Int))))).setCell ⟨g, j * 3 + 1, none⟩ (.int .i64 (k + 3 * (j : Int) + 1))).setCell ⟨g, j * 3 + 2, none⟩ (.int .i64 (k + 3 * (j : Int) + 1 + 1))) base 95 (.slice (some ⟨g, 0, none⟩) ps.length c) (markL mkDf 3 ps k (j + 1))) := hide o2
      have G3 : Hid (w.grownBy (((w1.setCell ⟨g, j * 3, none⟩ (.string (mkT (k + 3 * (j : Int))))).setCell ⟨g, j * 3 + 1, none⟩ (.int .i64 (k + 3 * (j : Int) + 1))).setCell ⟨g, j * 3 + 2, none⟩ (.int .i64 (k + 3 * (j : Int) + 1 + 1))) (Value.slice (some ⟨g, 0, none⟩) ps.length c).ownBlock) := hide (grown_set (grown_set (grown_set hgr _ _) _ _) _ _)
      clear o0 o1 o2 how hgr hml b1
      go_wp2
      go_roundw
      case rel => exact ⟨j + 1, by omega, by go_num, by go_num, unhide O3, unhide G3⟩
      case measure => simp [intOf]; omega
    · have hkk : j = ps.length := by omega
      subst hkk
      have O := hide how
      have G := hide hgr
      clear how hgr hml
      go_wp2
      go_ret
      exact ⟨rfl, unhide O, unhide G⟩
set_option maxRecDepth 20000 in
set_option maxHeartbeats 2000000 in
theorem heldDefectS_any (base : Nat) (a : Option Addr) (len c : Nat) (ps : List Df) (k : Int) (w : World) (ho : OwnE 3 dfC w base 95 (.slice a len c) (markL mkDf 3 ps k len)) (hl : ps.length = len) (h1 : len ≤ 1048576) (hk0 : 1 ≤ k) (hk1 : k ≤ 900000000) :
    Calls Tryz.prog 45 #[.slice a len c, .int .i64 k] w fun e w' => e = .returned (.int .i64 (k + 3 * len)) ∧ Below w.heap.size w w' := by
  subst hl
  have HO := hide (OwnE.row ho).open_
  clear ho
  go_enter Tryz.func45, Tryz.ntmps45
  go_wp2
  go_loopw [1, 5] (fun kk i wr => ∃ j : Nat, j ≤ ps.length ∧ i = .int .i64 j ∧ kk = .int .i64 (k + 3 * j) ∧ Below w.heap.size w wr) (fun _ i _ => ps.length - (intOf i).toNat)
  case atStart => exact ⟨0, Nat.zero_le _, rfl, by simp, Below.refl _ _⟩
  case round =>
    obtain ⟨j, hj, rfl, rfl, hbel⟩ := hrel
    have BW := hide hbel
    by_cases hlt : j < ps.length
    · rcases (unhide HO) with ⟨h0, _⟩ | ⟨bb, off, rfl, _, hc⟩
      · omega
      have hm := markL_at mkDf 3 ps k ps.length (Nat.le_refl _) j hlt
      obtain ⟨ι, fW, _, hcb, hcl⟩ := belClass wr
      have HB := hide hcb
      have HA := hide hcl
      obtain ⟨y0, hy0⟩ := hcl wr (Below.refl _ _)
      rw [hy0]
      have c0 : ∀ x, (fW x).cell? ⟨bb, off + j * 3, none⟩ = some (.string (mkT (k + 3 * (j : Int)))) := fun x => by have h := hc j hlt 0 (by omega); rw [hm] at h; exact ((hbel.trans ((hcb x).mono hbel.size)).cell (block_lt_of_cell h)).trans h
      have c1 : ∀ x, (fW x).cell? ⟨bb, off + j * 3 + 1, none⟩ = some (.int .i64 (k + 3 * (j : Int) + 1)) := fun x => by have h := hc j hlt 1 (by omega); rw [hm] at h; exact ((hbel.trans ((hcb x).mono hbel.size)).cell (block_lt_of_cell h)).trans h
      have c2 : ∀ x, (fW x).cell? ⟨bb, off + j * 3 + 2, none⟩ = some (.int .i64 (k + 3 * (j : Int) + 1 + 1)) := fun x => by have h := hc j hlt 2 (by omega); rw [hm] at h; exact ((hbel.trans ((hcb x).mono hbel.size)).cell (block_lt_of_cell h)).trans h
      have hi1 : (j : Int) < (ps.length : Int) := by omega
      clear hc hm hcb hcl hy0 hbel
      go_wp2_with fail
      repeat (refine wp_region_bel (fun w' h => (unhide HA) w' ((unhide HB _).trans (h.mono (unhide HB _).size))) (by kernel_rfl) (by kernel_rfl) ?_; (repeat (go_big_quiet_step (first | (go_at_call 48; exact belQ (unhide HB) (unhide HA) (markText_any _ _ (by omega) (by omega)))))); refine wpQuiet_nil ?_; rintro _ ⟨y, rfl⟩; (first | go_wp2_with fail | go_wp2))
      go_roundw
      case rel => exact ⟨j + 1, by omega, by go_num, by go_num, (unhide BW).trans ((unhide HB _).mono (unhide BW).size)⟩
      case measure => simp [intOf]; omega
    · have hkk : j = ps.length := by omega
      subst hkk
      clear hbel
      go_wp2
      go_ret
      exact ⟨rfl, unhide BW⟩

end Go.Proofs.YtglefolkecimabcGreat
