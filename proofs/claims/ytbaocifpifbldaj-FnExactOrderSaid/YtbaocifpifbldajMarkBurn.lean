/-
  The law's marks in a list of pairs that a call has made (Burn): every number gets the next number, and nothing else is written; the marks are found again.
-/
import Derived.Test.YtbaocifpifbldajChecked
import Derived.Test.YtbaocifpifbldajMarkPure
namespace Go.Proofs.Ytbaocifpifbldaj
open Go.RowKit

set_option maxHeartbeats 1000000 in
theorem markBurnS_any (base : Nat) (a : Option Addr) (len c : Nat) (ps : List (Int × Int)) (k : Int) (w : World) (ho : Own2 w base 76 (.slice a len c) ps) (hl : ps.length = len) (h1 : len ≤ 1048576) (hk0 : 0 ≤ k) (hk1 : k ≤ 1000000000) :
    Calls Try.prog 26 #[.slice a len c, .int .i64 k] w fun e w' => e = .returned (.int .i64 (k + 2 * len)) ∧ Own2 w' base 76 (.slice a len c) (markL ps k len) ∧ w.grownBy w' (Value.slice a len c).ownBlock := by
  subst hl
  go_enter Try.func26, Try.ntmps26
  go_wp2
  go_loopw [1, 5] (fun kk i wr => ∃ j : Nat, j ≤ ps.length ∧ i = .int .i64 j ∧ kk = .int .i64 (k + 2 * j) ∧ Own2 wr base 76 (.slice a ps.length c) (markL ps k j) ∧ w.grownBy wr (Value.slice a ps.length c).ownBlock) (fun _ i _ => ps.length - (intOf i).toNat)
  case atStart => exact ⟨0, Nat.zero_le _, rfl, by simp, ho, grown_refl _ _⟩
  case round =>
    obtain ⟨j, hj, rfl, rfl, how, hgr⟩ := hrel
    have hml := markL_len ps k j
    by_cases hlt : j < ps.length
    · rcases how.form with ⟨_, h0⟩ | ⟨g, c', hv, hg1, hg2, hc1, _⟩
      · rw [h0] at hml; simp at hml; omega
      simp only [Value.slice.injEq] at hv
      obtain ⟨rfl, hx, rfl⟩ := hv
      clear hx hc1
      have o1 := how
      rw [← hml] at o1
      obtain ⟨⟨n0, n1⟩, z0, z1⟩ := o1.here j (by omega)
      have o2 := o1.setFst j (by omega) (k + 2 * j) (by omega)
      have hl2 : ((markL ps k j).set j (k + 2 * j, sndAt (markL ps k j) j)).length = (markL ps k j).length := by simp
      rw [← hl2] at o2
      have o3 := o2.setSnd j (by rw [hl2]; omega) (k + 2 * j + 1) (by omega)
      rw [hl2, hml] at o3
      have e1 : fstAt ((markL ps k j).set j (k + 2 * j, sndAt (markL ps k j) j)) j = k + 2 * j := by rw [fstAt_set _ _ _ _ _ (by omega)]; simp
      rw [e1] at o3
      have O3 : Hid (Own2 ((wr.setCell ⟨g, j * 2, none⟩ (.int .i64 (k + 2 * j))).setCell ⟨g, j * 2 + 1, none⟩ (.int .i64 (k + 2 * j + 1))) base 76 (.slice (some ⟨g, 0, none⟩) ps.length c) (markL ps k (j + 1))) := hide o3
      have G3 : Hid (w.grownBy ((wr.setCell ⟨g, j * 2, none⟩ (.int .i64 (k + 2 * j))).setCell ⟨g, j * 2 + 1, none⟩ (.int .i64 (k + 2 * j + 1))) (Value.slice (some ⟨g, 0, none⟩) ps.length c).ownBlock) := hide (grown_set (grown_set hgr _ _) _ _)
      have hi1 : (j : Int) < (ps.length : Int) := by omega
      clear o1 o2 o3 how hgr e1 hl2 hml
      go_wp2
      go_roundw
      case rel => exact ⟨j + 1, by omega, by go_num, by go_num, unhide O3, unhide G3⟩
      case measure => simp [intOf]; omega
    · have hkk : j = ps.length := by omega
      subst hkk
      have O := hide how
      have G := hide hgr
      clear how hgr hml
      go_wp2
      go_ret
      exact ⟨rfl, unhide O, unhide G⟩

set_option maxHeartbeats 1000000 in
theorem heldBurnS_any (base : Nat) (a : Option Addr) (len c : Nat) (ps : List (Int × Int)) (k : Int) (w : World) (ho : Own2 w base 76 (.slice a len c) (markL ps k len)) (hl : ps.length = len) (h1 : len ≤ 1048576) (hk0 : 0 ≤ k) (hk1 : k ≤ 1000000000) :
    Calls Try.prog 33 #[.slice a len c, .int .i64 k] w fun e w' => e = .returned (.int .i64 (k + 2 * len)) ∧ w' = w := by
  subst hl
  have HO := hide (Own2.row ho).open_
  clear ho
  go_enter Try.func33, Try.ntmps33
  go_wp2
  go_loopw [1, 5] (fun kk i wr => ∃ j : Nat, j ≤ ps.length ∧ i = .int .i64 j ∧ kk = .int .i64 (k + 2 * j) ∧ wr = w) (fun _ i _ => ps.length - (intOf i).toNat)
  case atStart => exact ⟨0, Nat.zero_le _, rfl, by simp, rfl⟩
  case round =>
    obtain ⟨j, hj, rfl, rfl, hwr⟩ := hrel
    subst wr
    by_cases hlt : j < ps.length
    · rcases (unhide HO) with ⟨h0, _⟩ | ⟨bb, off, rfl, _, hc⟩
      · omega
      obtain ⟨ca, cb⟩ := hc j hlt
      obtain ⟨m0, m1⟩ := markL_at ps k ps.length (Nat.le_refl _) j hlt
      rw [m0] at ca
      rw [m1] at cb
      have hi1 : (j : Int) < (ps.length : Int) := by omega
      have q0 : ((k + 2 * (j : Int)) != (k + 2 * (j : Int))) = false := by simp
      have q1 : ((k + 2 * (j : Int) + 1) != (k + 2 * (j : Int) + 1)) = false := by simp
      clear hc m0 m1
      go_wp2
      go_roundw
      case rel => exact ⟨j + 1, by omega, by go_num, by go_num, by first | rfl | trivial⟩
      case measure => simp [intOf]; omega
    · have hkk : j = ps.length := by omega
      subst hkk
      go_wp2
      go_ret
      exact ⟨rfl, rfl⟩

end Go.Proofs.Ytbaocifpifbldaj
