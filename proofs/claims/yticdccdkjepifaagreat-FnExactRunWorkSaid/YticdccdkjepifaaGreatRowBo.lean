/-
  The law's size, copy and comparison of a list of bools, and its marks. The copy at lists of at most 1048576; nothing that was there is written, the marks only into the list's own memory.
-/
import Derived.Test.YticdccdkjepifaaGreatMLowPure
import Derived.Test.YticdccdkjepifaaGreatMBase
import Derived.Deep.DrawnRows
import Derived.Deep.RegionHeld3
namespace Go.Proofs.YticdccdkjepifaaGreat
open Go.RowKit
attribute [local go_sem ↓] Go.wp_at_zero Go.wp_at_succ

/-- A bool's one cell. -/
def boC (x : Bool) : Nat → Value | _ => .bool x

theorem infoBo : (Tryz.prog.info? 4).map (fun i => (i.zero, i.size, i.bytes)) = some (some (.bool false), 1, 1) := by kernel_rfl


set_option maxHeartbeats 1000000 in
theorem eqBoolS_same (ad bd : Option Addr) (len cap len2 cap2 : Nat) (ps : List Bool) (w : World) (hr : RowE 1 boC w ad len ps) (hr2 : RowE 1 boC w bd len2 ps) :
    Calls Tryz.prog 11 #[.slice ad len cap, .slice bd len2 cap2] w fun e w' => e = .returned (.bool true) ∧ Below w.heap.size w w' := by
  have hz := hr.len_eq
  have hs := hr.small
  have HO := hide hr.open1
  have hz2 := hr2.len_eq
  have HO2 := hide hr2.open1
  clear hr hr2
  subst hz
  subst hz2
  have hb : ((ps.length : Int) != (ps.length : Int)) = false := by simp
  go_enter Tryz.func11, Tryz.ntmps11
  go_wp2
  go_loopw [5] (fun i wr => ∃ k : Nat, k ≤ ps.length ∧ i = .int .i64 k ∧ ∃ n, wr = w.drewN n) (fun i _ => ps.length - (intOf i).toNat)
  case atStart => exact ⟨0, Nat.zero_le _, rfl, 0, rfl⟩
  case round =>
    obtain ⟨k, hk, rfl, n, hwr⟩ := hrel
    subst wr
    by_cases hlt : k < ps.length
    · rcases (unhide HO) with ⟨h0, _⟩ | ⟨bb, off, rfl, _, hc⟩
      · simp [h0] at hlt
      rcases (unhide HO2) with ⟨h0, _⟩ | ⟨bb2, off2, rfl, _, hc2⟩
      · simp [h0] at hlt
      have ca : w.cell? ⟨bb, off + k, none⟩ = some (.bool (elAt ps k)) := hc k hlt
      have da : w.cell? ⟨bb2, off2 + k, none⟩ = some (.bool (elAt ps k)) := hc2 k hlt
      have hi1 : (0 : Int) ≤ (k : Int) := by omega
      have hi2 : (k : Int) < (ps.length : Int) := by omega
      have hq : (elAt ps k != elAt ps k) = false := by simp
      clear hc hc2
      go_wp2
      go_quiet (fail)
      go_wp2
      go_roundw
      case rel => exact ⟨k + 1, by omega, by go_num, _, rfl⟩
      case measure => simp [intOf]; omega
    · go_wp2
      go_ret
      exact ⟨rfl, bel0d n⟩

/-- The mark of a place. -/
def thirdB (k : Int) : Bool := k % 3 == 0
/-- After n rounds of the marking. -/
def markBo (ps : List Bool) (k : Int) : Nat → List Bool
  | 0 => ps
  | n + 1 => (markBo ps k n).set n (thirdB (k + n))
theorem markBo_len (ps : List Bool) (k : Int) (n : Nat) : (markBo ps k n).length = ps.length := by
  induction n with
  | zero => rfl
  | succ n ih => simp [markBo, ih]
theorem markBo_at (ps : List Bool) (k : Int) : ∀ n, n ≤ ps.length → ∀ i, i < n → elAt (markBo ps k n) i = thirdB (k + i) := by
  intro n
  induction n with
  | zero => intro _ i hi; omega
  | succ n ih =>
    intro hn i hi
    have hl : n < (markBo ps k n).length := by rw [markBo_len]; omega
    show elAt ((markBo ps k n).set n (thirdB (k + n))) i = _
    rw [elAt_set _ _ _ _ hl]
    by_cases e : i = n
    · subst e; simp
    · rw [if_neg e]; exact ih (by omega) i (by omega)

set_option maxHeartbeats 1000000 in
theorem markBoolS_any (base : Nat) (a : Option Addr) (len c : Nat) (ps : List Bool) (k : Int) (w : World) (ho : OwnE 1 boC w base 4 (.slice a len c) ps) (hl : ps.length = len) (h1 : len ≤ 1048576) (hk0 : 0 ≤ k) (hk1 : k ≤ 1000000000) :
    Calls Tryz.prog 15 #[.slice a len c, .int .i64 k] w fun e w' => e = .returned (.int .i64 (k + len)) ∧ OwnE 1 boC w' base 4 (.slice a len c) (markBo ps k len) ∧ w.grownBy w' (Value.slice a len c).ownBlock := by
  subst hl
  go_enter Tryz.func15, Tryz.ntmps15
  go_wp2
  go_loopw [1, 5] (fun kk i wr => ∃ j : Nat, j ≤ ps.length ∧ i = .int .i64 j ∧ kk = .int .i64 (k + j) ∧ OwnE 1 boC wr base 4 (.slice a ps.length c) (markBo ps k j) ∧ w.grownBy wr (Value.slice a ps.length c).ownBlock) (fun _ i _ => ps.length - (intOf i).toNat)
  case atStart => exact ⟨0, Nat.zero_le _, rfl, by simp, ho, grown_refl _ _⟩
  case round =>
    obtain ⟨j, hj, rfl, rfl, how, hgr⟩ := hrel
    have hml := markBo_len ps k j
    by_cases hlt : j < ps.length
    · rcases how.form with ⟨_, h0⟩ | ⟨g, c', hv, hg1, hg2, hc1, _⟩
      · rw [h0] at hml; simp at hml; omega
      simp only [Value.slice.injEq] at hv
      obtain ⟨rfl, hx, rfl⟩ := hv
      clear hx hc1
      have n0 : wr.cell? ⟨g, j, none⟩ = some (.bool (elAt (markBo ps k j) j)) := (how.here1 hml j hlt).1
      have z0 : wr.frozen? ⟨g, j, none⟩ = false := (how.here1 hml j hlt).2
      have O3 : Hid (OwnE 1 boC (wr.setCell ⟨g, j, none⟩ (.bool (thirdB (k + j)))) base 4 (.slice (some ⟨g, 0, none⟩) ps.length c) (markBo ps k (j + 1))) := hide (how.set1 hml j hlt _ _ rfl)
      have G3 : Hid (w.grownBy (wr.setCell ⟨g, j, none⟩ (.bool (thirdB (k + j)))) (Value.slice (some ⟨g, 0, none⟩) ps.length c).ownBlock) := hide (grown_set hgr _ _)
      have hi1 : (j : Int) < (ps.length : Int) := by omega
      have ht : ((k + (j : Int)) % 3 == 0) = thirdB (k + j) := rfl
      clear how hgr hml
      go_wp2
      go_roundw
      case rel => exact ⟨j + 1, by omega, by go_num, by go_num, unhide O3, unhide G3⟩
      case measure => simp [intOf]; omega
    · have hkk : j = ps.length := by omega
      subst hkk
      have O := hide how
      have G := hide hgr
      clear how hgr hml
      go_wp2
      go_ret
      exact ⟨rfl, unhide O, unhide G⟩

set_option maxHeartbeats 1000000 in
theorem heldBoolS_any (base : Nat) (a : Option Addr) (len c : Nat) (ps : List Bool) (k : Int) (w : World) (ho : OwnE 1 boC w base 4 (.slice a len c) (markBo ps k len)) (hl : ps.length = len) (h1 : len ≤ 1048576) (hk0 : 0 ≤ k) (hk1 : k ≤ 1000000000) :
    Calls Tryz.prog 17 #[.slice a len c, .int .i64 k] w fun e w' => e = .returned (.int .i64 (k + len)) ∧ w' = w := by
  subst hl
  have HO := hide (OwnE.row ho).open1
  clear ho
  go_enter Tryz.func17, Tryz.ntmps17
  go_wp2
  go_loopw [1, 5] (fun kk i wr => ∃ j : Nat, j ≤ ps.length ∧ i = .int .i64 j ∧ kk = .int .i64 (k + j) ∧ wr = w) (fun _ i _ => ps.length - (intOf i).toNat)
  case atStart => exact ⟨0, Nat.zero_le _, rfl, by simp, rfl⟩
  case round =>
    obtain ⟨j, hj, rfl, rfl, hwr⟩ := hrel
    subst wr
    by_cases hlt : j < ps.length
    · rcases (unhide HO) with ⟨h0, _⟩ | ⟨bb, off, rfl, _, hc⟩
      · rw [h0] at hlt; simp at hlt
      have ca : w.cell? ⟨bb, off + j, none⟩ = some (.bool (elAt (markBo ps k ps.length) j)) := hc j hlt
      rw [markBo_at ps k ps.length (Nat.le_refl _) j hlt] at ca
      have hi1 : (j : Int) < (ps.length : Int) := by omega
      have ht : ((k + (j : Int)) % 3 == 0) = thirdB (k + j) := rfl
      have q0 : (thirdB (k + (j : Int)) != thirdB (k + (j : Int))) = false := by simp
      clear hc
      go_wp2
      go_roundw
      case rel => exact ⟨j + 1, by omega, by go_num, by go_num, by first | rfl | trivial⟩
      case measure => simp [intOf]; omega
    · have hkk : j = ps.length := by omega
      subst hkk
      go_wp2
      go_ret
      exact ⟨rfl, rfl⟩

end Go.Proofs.YticdccdkjepifaaGreat
