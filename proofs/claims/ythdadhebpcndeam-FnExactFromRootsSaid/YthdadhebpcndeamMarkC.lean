/-
  The law's marks in a list of complex numbers that a call has made: every number gets the next number, and nothing else is written; the marks are found again.
-/
import Derived.Test.YthdadhebpcndeamChecked
import Derived.Test.YthdadhebpcndeamFlWalk
import Derived.Test.YthdadhebpcndeamMarkPureC
namespace Go.Proofs.Ythdadhebpcndeam
open Go.RowKit
attribute [local go_sem] run_store_float run_store_complex
theorem fint_is (n : Int) : floatOfInt .f64 n = fint n := rfl

set_option maxHeartbeats 1000000 in
theorem markCxS_any (base : Nat) (a : Option Addr) (len c : Nat) (ps : List (Nat × Nat)) (k : Int) (w : World) (ho : OwnC w base 27 (.slice a len c) ps) (hl : ps.length = len) (h1 : len ≤ 1048576) (hk0 : 0 ≤ k) (hk1 : k ≤ 1000000000) :
    Calls Try.prog 17 #[.slice a len c, .int .i64 k] w fun e w' => e = .returned (.int .i64 (k + 2 * len)) ∧ OwnC w' base 27 (.slice a len c) (markC ps k len) ∧ w.grownBy w' (Value.slice a len c).ownBlock := by
  subst hl
  have hfi := fint_is
  go_enter Try.func17, Try.ntmps17
  go_wp2
  go_loopw [1, 5] (fun kk i wr => ∃ j : Nat, j ≤ ps.length ∧ i = .int .i64 j ∧ kk = .int .i64 (k + 2 * j) ∧ OwnC wr base 27 (.slice a ps.length c) (markC ps k j) ∧ w.grownBy wr (Value.slice a ps.length c).ownBlock) (fun _ i _ => ps.length - (intOf i).toNat)
  case atStart => exact ⟨0, Nat.zero_le _, rfl, by simp, ho, grown_refl _ _⟩
  case round =>
    obtain ⟨j, hj, rfl, rfl, how, hgr⟩ := hrel
    have hml := markC_len ps k j
    by_cases hlt : j < ps.length
    · rcases how.form with ⟨_, h0⟩ | ⟨g, c', hv, hg1, hg2, hc1, _⟩
      · rw [h0] at hml; simp at hml; omega
      simp only [Value.slice.injEq] at hv
      obtain ⟨rfl, hx, rfl⟩ := hv
      clear hx hc1
      have o1 := how
      rw [← hml] at o1
      obtain ⟨⟨n0, n1⟩, z0, z1⟩ := o1.here j (by omega)
      have o2 := o1.setFst j (by omega) (fint (k + 2 * j))
      have hl2 : ((markC ps k j).set j (fint (k + 2 * j), imAt (markC ps k j) j)).length = (markC ps k j).length := by simp
      rw [← hl2] at o2
      have o3 := o2.setSnd j (by rw [hl2]; omega) (fint (k + 2 * j + 1))
      rw [hl2, hml] at o3
      have e1 : reAt ((markC ps k j).set j (fint (k + 2 * j), imAt (markC ps k j) j)) j = fint (k + 2 * j) := by rw [reAt_set _ _ _ _ _ (by omega)]; simp
      rw [e1] at o3
      have O3 : Hid (OwnC ((wr.setCell ⟨g, j * 2, none⟩ (.float .f64 (fint (k + 2 * j)))).setCell ⟨g, j * 2 + 1, none⟩ (.float .f64 (fint (k + 2 * j + 1)))) base 27 (.slice (some ⟨g, 0, none⟩) ps.length c) (markC ps k (j + 1))) := hide o3
      have G3 : Hid (w.grownBy ((wr.setCell ⟨g, j * 2, none⟩ (.float .f64 (fint (k + 2 * j)))).setCell ⟨g, j * 2 + 1, none⟩ (.float .f64 (fint (k + 2 * j + 1)))) (Value.slice (some ⟨g, 0, none⟩) ps.length c).ownBlock) := hide (grown_set (grown_set hgr _ _) _ _)
      have hi1 : (j : Int) < (ps.length : Int) := by omega
      clear o1 o2 o3 how hgr e1 hl2 hml
      go_wp2
      go_roundw
      case rel => exact ⟨j + 1, by omega, by go_num, by go_num, unhide O3, unhide G3⟩
      case measure => simp [intOf]; omega
    · have hkk : j = ps.length := by omega
      subst hkk
      have O := hide how
      have G := hide hgr
      clear how hgr hml
      go_wp2
      go_ret
      exact ⟨rfl, unhide O, unhide G⟩

set_option maxHeartbeats 1000000 in
theorem heldCxS_any (base : Nat) (a : Option Addr) (len c : Nat) (ps : List (Nat × Nat)) (k : Int) (w : World) (ho : OwnC w base 27 (.slice a len c) (markC ps k len)) (hl : ps.length = len) (h1 : len ≤ 1048576) (hk0 : 0 ≤ k) (hk1 : k ≤ 1000000000) :
    Calls Try.prog 18 #[.slice a len c, .int .i64 k] w fun e w' => e = .returned (.int .i64 (k + 2 * len)) ∧ w' = w := by
  subst hl
  have HO := hide (OwnC.row ho).open_
  clear ho
  have hfi := fint_is
  go_enter Try.func18, Try.ntmps18
  go_wp2
  go_loopw [1, 5] (fun kk i wr => ∃ j : Nat, j ≤ ps.length ∧ i = .int .i64 j ∧ kk = .int .i64 (k + 2 * j) ∧ wr = w) (fun _ i _ => ps.length - (intOf i).toNat)
  case atStart => exact ⟨0, Nat.zero_le _, rfl, by simp, rfl⟩
  case round =>
    obtain ⟨j, hj, rfl, rfl, hwr⟩ := hrel
    subst wr
    by_cases hlt : j < ps.length
    · rcases (unhide HO) with ⟨h0, _⟩ | ⟨bb, off, rfl, _, hc⟩
      · omega
      obtain ⟨ca, cb⟩ := hc j hlt
      obtain ⟨m0, m1⟩ := markC_at ps k ps.length (Nat.le_refl _) j hlt
      rw [m0] at ca
      rw [m1] at cb
      have hi1 : (j : Int) < (ps.length : Int) := by omega
      have q0 := fint_same (k + 2 * (j : Int))
      have q1 := fint_same (k + 2 * (j : Int) + 1)
      clear hc m0 m1
      go_wp2
      go_roundw
      case rel => exact ⟨j + 1, by omega, by go_num, by go_num, by first | rfl | trivial⟩
      case measure => simp [intOf]; omega
    · have hkk : j = ps.length := by omega
      subst hkk
      go_wp2
      go_ret
      exact ⟨rfl, rfl⟩

end Go.Proofs.Ythdadhebpcndeam
