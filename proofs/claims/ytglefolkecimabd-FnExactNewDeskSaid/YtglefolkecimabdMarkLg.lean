/-
  The law's marks in a list of Legs that a call has made: every number gets the next number, and nothing else is written; the marks are found again.
-/
import Derived.Test.YtglefolkecimabdToLg
namespace Go.Proofs.Ytglefolkecimabd
open Go.RowKit

def mkLg (n : Int) : Lg := ⟨(n), (n + 1), (n + 1 + 1), (n + 1 + 1 + 1)⟩

set_option maxRecDepth 20000 in
set_option maxHeartbeats 1000000 in
theorem markLegS_any (base : Nat) (a : Option Addr) (len c : Nat) (ps : List Lg) (k : Int) (w : World) (ho : OwnE 4 lgC w base 91 (.slice a len c) ps) (hl : ps.length = len) (h1 : len ≤ 1048576) (hk0 : 0 ≤ k) (hk1 : k ≤ 1000000000) :
    Calls Try.prog 65 #[.slice a len c, .int .i64 k] w fun e w' => e = .returned (.int .i64 (k + 4 * len)) ∧ OwnE 4 lgC w' base 91 (.slice a len c) (markL mkLg 4 ps k len) ∧ w.grownBy w' (Value.slice a len c).ownBlock := by
  subst hl
  go_enter Try.func65, Try.ntmps65
  go_wp2
  go_loopw [1, 5] (fun kk i wr => ∃ j : Nat, j ≤ ps.length ∧ i = .int .i64 j ∧ kk = .int .i64 (k + 4 * j) ∧ OwnE 4 lgC wr base 91 (.slice a ps.length c) (markL mkLg 4 ps k j) ∧ w.grownBy wr (Value.slice a ps.length c).ownBlock) (fun _ i _ => ps.length - (intOf i).toNat)
  case atStart => exact ⟨0, Nat.zero_le _, rfl, by simp, ho, grown_refl _ _⟩
  case round =>
    obtain ⟨j, hj, rfl, rfl, how, hgr⟩ := hrel
    have hml := markL_len mkLg 4 ps k j
    by_cases hlt : j < ps.length
    · rcases how.form with ⟨_, h0⟩ | ⟨g, c', hv, hg1, hg2, hc1, _⟩
      · rw [h0] at hml; simp at hml; omega
      simp only [Value.slice.injEq] at hv
      obtain ⟨rfl, hx, rfl⟩ := hv
      clear hx hc1
      have n0 : wr.cell? ⟨g, j * 4, none⟩ = some (.int .i64 (elAt (markL mkLg 4 ps k j) j).a0) := (how.here hml j hlt 0 (by omega)).1
      have z0 : wr.frozen? ⟨g, j * 4, none⟩ = false := (how.here hml j hlt 0 (by omega)).2
      have n1 : wr.cell? ⟨g, j * 4 + 1, none⟩ = some (.int .i64 (elAt (markL mkLg 4 ps k j) j).a1) := (how.here hml j hlt 1 (by omega)).1
      have z1 : wr.frozen? ⟨g, j * 4 + 1, none⟩ = false := (how.here hml j hlt 1 (by omega)).2
      have n2 : wr.cell? ⟨g, j * 4 + 2, none⟩ = some (.int .i64 (elAt (markL mkLg 4 ps k j) j).a2) := (how.here hml j hlt 2 (by omega)).1
      have z2 : wr.frozen? ⟨g, j * 4 + 2, none⟩ = false := (how.here hml j hlt 2 (by omega)).2
      have n3 : wr.cell? ⟨g, j * 4 + 3, none⟩ = some (.int .i64 (elAt (markL mkLg 4 ps k j) j).a3) := (how.here hml j hlt 3 (by omega)).1
      have z3 : wr.frozen? ⟨g, j * 4 + 3, none⟩ = false := (how.here hml j hlt 3 (by omega)).2
      have o0 := how.setOne hml j hlt 0 (by omega) (.int .i64 ((k + 4 * (j : Int)))) ⟨(k + 4 * (j : Int)), (elAt (markL mkLg 4 ps k j) j).a1, (elAt (markL mkLg 4 ps k j) j).a2, (elAt (markL mkLg 4 ps k j) j).a3⟩ (by intro p hp; rcases (show p = 0 ∨ p = 1 ∨ p = 2 ∨ p = 3 from by omega) with rfl | rfl | rfl | rfl <;> rfl)
      have o1 := o0.setMore hml hlt 1 (by omega) (.int .i64 ((k + 4 * (j : Int) + 1))) ⟨(k + 4 * (j : Int)), (k + 4 * (j : Int) + 1), (elAt (markL mkLg 4 ps k j) j).a2, (elAt (markL mkLg 4 ps k j) j).a3⟩ (by intro p hp; rcases (show p = 0 ∨ p = 1 ∨ p = 2 ∨ p = 3 from by omega) with rfl | rfl | rfl | rfl <;> rfl)
      have o2 := o1.setMore hml hlt 2 (by omega) (.int .i64 ((k + 4 * (j : Int) + 1 + 1))) ⟨(k + 4 * (j : Int)), (k + 4 * (j : Int) + 1), (k + 4 * (j : Int) + 1 + 1), (elAt (markL mkLg 4 ps k j) j).a3⟩ (by intro p hp; rcases (show p = 0 ∨ p = 1 ∨ p = 2 ∨ p = 3 from by omega) with rfl | rfl | rfl | rfl <;> rfl)
      have o3 := o2.setMore hml hlt 3 (by omega) (.int .i64 ((k + 4 * (j : Int) + 1 + 1 + 1))) ⟨(k + 4 * (j : Int)), (k + 4 * (j : Int) + 1), (k + 4 * (j : Int) + 1 + 1), (k + 4 * (j : Int) + 1 + 1 + 1)⟩ (by intro p hp; rcases (show p = 0 ∨ p = 1 ∨ p = 2 ∨ p = 3 from by omega) with rfl | rfl | rfl | rfl <;> rfl)
      have O3 : Hid (OwnE 4 lgC ((((wr.setCell ⟨g, j * 4, none⟩ (.int .i64 ((k + 4 * (j : Int))))).setCell ⟨g, j * 4 + 1, none⟩ (.int .i64 ((k + 4 * (j : Int) + 1)))).setCell ⟨g, j * 4 + 2, none⟩ (.int .i64 ((k + 4 * (j : Int) + 1 + 1)))).setCell ⟨g, j * 4 + 3, none⟩ (.int .i64 ((k + 4 * (j : Int) + 1 + 1 + 1)))) base 91 (.slice (some ⟨g, 0, none⟩) ps.length c) (markL mkLg 4 ps k (j + 1))) := hide o3
      have G3 : Hid (w.grownBy ((((wr.setCell ⟨g, j * 4, none⟩ (.int .i64 ((k + 4 * (j : Int))))).setCell ⟨g, j * 4 + 1, none⟩ (.int .i64 ((k + 4 * (j : Int) + 1)))).setCell ⟨g, j * 4 + 2, none⟩ (.int .i64 ((k + 4 * (j : Int) + 1 + 1)))).setCell ⟨g, j * 4 + 3, none⟩ (.int .i64 ((k + 4 * (j : Int) + 1 + 1 + 1)))) (Value.slice (some ⟨g, 0, none⟩) ps.length c).ownBlock) := hide (grown_set (grown_set (grown_set (grown_set hgr _ _) _ _) _ _) _ _)
      have hi1 : (j : Int) < (ps.length : Int) := by omega
      clear o0 o1 o2 o3 how hgr hml
      go_wp2
      go_roundw
      case rel => exact ⟨j + 1, by omega, by go_num, by go_num, unhide O3, unhide G3⟩
      case measure => simp [intOf]; omega
    · have hkk : j = ps.length := by omega
      subst hkk
      have O := hide how
      have G := hide hgr
      clear how hgr hml
      go_wp2
      go_ret
      exact ⟨rfl, unhide O, unhide G⟩

set_option maxRecDepth 20000 in
set_option maxHeartbeats 1000000 in
theorem heldLegS_any (base : Nat) (a : Option Addr) (len c : Nat) (ps : List Lg) (k : Int) (w : World) (ho : OwnE 4 lgC w base 91 (.slice a len c) (markL mkLg 4 ps k len)) (hl : ps.length = len) (h1 : len ≤ 1048576) (hk0 : 0 ≤ k) (hk1 : k ≤ 1000000000) :
    Calls Try.prog 67 #[.slice a len c, .int .i64 k] w fun e w' => e = .returned (.int .i64 (k + 4 * len)) ∧ w' = w := by
  subst hl
  have HO := hide (OwnE.row ho).open_
  clear ho
  go_enter Try.func67, Try.ntmps67
  go_wp2
  go_loopw [1, 5] (fun kk i wr => ∃ j : Nat, j ≤ ps.length ∧ i = .int .i64 j ∧ kk = .int .i64 (k + 4 * j) ∧ wr = w) (fun _ i _ => ps.length - (intOf i).toNat)
  case atStart => exact ⟨0, Nat.zero_le _, rfl, by simp, rfl⟩
  case round =>
    obtain ⟨j, hj, rfl, rfl, hwr⟩ := hrel
    subst wr
    by_cases hlt : j < ps.length
    · rcases (unhide HO) with ⟨h0, _⟩ | ⟨bb, off, rfl, _, hc⟩
      · omega
      have hm := markL_at mkLg 4 ps k ps.length (Nat.le_refl _) j hlt
      have c0 : w.cell? ⟨bb, off + j * 4, none⟩ = some (.int .i64 ((k + 4 * (j : Int)))) := by have h := hc j hlt 0 (by omega); rw [hm] at h; exact h
      have c1 : w.cell? ⟨bb, off + j * 4 + 1, none⟩ = some (.int .i64 ((k + 4 * (j : Int) + 1))) := by have h := hc j hlt 1 (by omega); rw [hm] at h; exact h
      have c2 : w.cell? ⟨bb, off + j * 4 + 2, none⟩ = some (.int .i64 ((k + 4 * (j : Int) + 1 + 1))) := by have h := hc j hlt 2 (by omega); rw [hm] at h; exact h
      have c3 : w.cell? ⟨bb, off + j * 4 + 3, none⟩ = some (.int .i64 ((k + 4 * (j : Int) + 1 + 1 + 1))) := by have h := hc j hlt 3 (by omega); rw [hm] at h; exact h
      have hi1 : (j : Int) < (ps.length : Int) := by omega
      clear hc hm
      go_wp2
      go_roundw
      case rel => exact ⟨j + 1, by omega, by go_num, by go_num, by first | rfl | trivial⟩
      case measure => simp [intOf]; omega
    · have hkk : j = ps.length := by omega
      subst hkk
      go_wp2
      go_ret
      exact ⟨rfl, rfl⟩

end Go.Proofs.Ytglefolkecimabd
