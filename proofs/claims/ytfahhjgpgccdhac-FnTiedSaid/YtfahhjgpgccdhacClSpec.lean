/-
  What the model answers that seeks ties to be closed. At a net that is so; nothing that was there is written.
-/
import Derived.Test.YtfahhjgpgccdhacClPure
import Derived.Test.YtfahhjgpgccdhacClTie
import Derived.Test.YtfahhjgpgccdhacShSpec
import Derived.Test.YtfahhjgpgccdhacLists
import Derived.Test.YtfahhjgpgccdhacAppL
import Derived.Deep.Cut
import Derived.Deep.CutRange
import Derived.Deep.RegionLaw
namespace Go.Proofs.Ytfahhjgpgccdhac
open Go.RowKit

set_option maxRecDepth 20000 in
set_option maxHeartbeats 3000000 in
theorem well_any (N : Nat) (a1 a2 a3 : Option Addr) (l1 c1 l2 c2 l3 c3 : Nat) (ss : List Sr) (ts : List Ti) (us : List Us) (w : World) (hr : NetIn w a1 a2 a3 l1 l2 l3 ss ts us) (hok : netB (N : Int) ss ts us = true) :
    Calls Try.prog 53 #[.agg #[.int .i64 (N : Int), .slice a1 l1 c1, .slice a2 l2 c2, .slice a3 l3 c3]] w fun e w' => e = .returned (.bool (wellB N ss us ts)) ∧ Below w.heap.size w w' := by
  obtain ⟨B, hB⟩ : ∃ B, wellB N ss us ts = B := ⟨_, rfl⟩
  rw [hB]
  have WB0 := hide hB
  have R := hide hr
  have HOK := hide hok
  have KP : Hid (Blk (w.alloc (Obj.cells #[.int .i64 (N : Int), .slice a1 l1 c1, .slice a2 l2 c2, .slice a3 l3 c3] 44)) w.heap.size [.int .i64 (N : Int), .slice a1 l1 c1, .slice a2 l2 c2, .slice a3 l3 c3]) := hide (Blk.new (w := w) [.int .i64 (N : Int), .slice a1 l1 c1, .slice a2 l2 c2, .slice a3 l3 c3] 44)
  have HB := hide (bel1 (w := w) (Obj.cells #[.int .i64 (N : Int), .slice a1 l1 c1, .slice a2 l2 c2, .slice a3 l3 c3] 44))
  have Z3 := hide hr.r3.len_eq
  have hu40 := (net_facts hok).2.1.2.2
  have q3 : l3 ≤ 40 := by have := hr.r3.len_eq; omega
  clear hr hok hu40 hB
  go_enter Try.func53, Try.ntmps53
  go_wp2_with fail
  refine (specShed_yes N a1 a2 a3 l1 c1 l2 c2 l3 c3 ss ts us _ ((unhide R).below (unhide HB)) (unhide HOK)).mono ?_
  rintro e w1 ⟨a, c, rfl, o1, b1⟩
  obtain ⟨zs, hzs⟩ : ∃ zs, shR N ss ts us = zs := ⟨_, rfl⟩
  have hlt : ∀ i, i < zs.length → 0 ≤ nth zs i ∧ nth zs i < us.length := fun i hi => by rw [← hzs] at hi ⊢; exact shR_lt hi
  have WB : Hid (rankB us zs = B) := hide (by rw [← unhide WB0, wellB, hzs])
  have hl1 : zs.length ≤ 40 := by
    rw [← hzs]
    have := unK_len (outr (isleR N ts) us (shS N ss ts us) 10).F us.length
    have := unhide Z3
    unfold shR; omega
  rw [hzs] at o1 ⊢
  clear hzs WB0
  have HC : Hid (∀ i, i < zs.length → ∃ g o, a = some ⟨g, o, none⟩ ∧ w1.cell? ⟨g, o + i, none⟩ = some (.int .i64 (nth zs i))) := hide (fun i hi => o1.row.cells i hi)
  have HLT := hide hlt
  obtain ⟨M, hM⟩ : ∃ M, zs.length = M := ⟨_, rfl⟩
  rw [hM] at hl1 ⊢
  have HM := hide hM
  have HB1 := hide ((unhide HB).trans (b1.mono (unhide HB).size))
  have hc3 : w1.cell? ⟨w.heap.size, 3, none⟩ = some (.slice a3 l3 c3) := ((unhide KP).below b1).c 3 (by simp)
  have R1 := hide ((unhide R).r3.below (unhide HB1))
  clear o1 b1 hlt hM R KP HB
  go_wp2_with fail
  go_loopw [5] (fun p wr => ∃ k nq : Nat, p = .int .i64 (k : Int) ∧ k ≤ M ∧ wr = w1.drewN nq ∧ Hid (∀ j, j < k → (elAt us (nth zs j).toNat).a2 ≠ 0)) (fun p _ => M - (intOf p).toNat)
  case atStart => exact ⟨0, 0, rfl, Nat.zero_le _, rfl, hide (fun j hj => by omega)⟩
  case round =>
    obtain ⟨k, nr, rfl, hk, hwr, HJ⟩ := hrel
    subst wr
    by_cases hkm : k < M
    · have hkm2 : (k : Int) < (M : Int) := by omega
      have hk0 : (0 : Int) ≤ (k : Int) := by omega
      obtain ⟨g, go, hag, zk⟩ := (unhide HC) k (by rw [unhide HM]; exact hkm)
      subst hag
      obtain ⟨x0, x1⟩ := (unhide HLT) k (by rw [unhide HM]; exact hkm)
      obtain ⟨J, hJ⟩ : ∃ J : Nat, nth zs k = (J : Int) := ⟨(nth zs k).toNat, by omega⟩
      have HJJ := hide hJ
      rw [hJ] at zk x0 x1
      rw [unhide Z3] at x1
      rcases (unhide R1).open_ with ⟨h0, _⟩ | ⟨bb, off, hbb, _, hc⟩
      · omega
      subst hbb
      have ej : w1.cell? ⟨bb, off + J * 3 + 2, none⟩ = some (.int .i64 (elAt us J).a2) := hc J (by omega) 2 (by omega)
      obtain ⟨rk, hrk⟩ : ∃ rk, (elAt us J).a2 = rk := ⟨_, rfl⟩
      rw [hrk] at ej
      clear hc hJ
      by_cases h0 : rk = 0
      · subst h0
        have HR : Hid (rankB us zs = false) := hide (rankB_no (i := k) (by rw [unhide HM]; exact hkm) (by rw [unhide HJJ]; simpa using hrk))
        clear hrk
        go_wp2_with fail
        go_quiet (fail)
        go_wp2_with fail
        go_ret
        exact ⟨by rw [← unhide WB, unhide HR]; rfl, (unhide HB1).trans (((bel0d' nr).trans ((bel0d' nq).mono (Nat.le_refl _))).mono (unhide HB1).size)⟩
      · have HJ1 : Hid (∀ j, j < k + 1 → (elAt us (nth zs j).toNat).a2 ≠ 0) := hide (fun j hj => by
          rcases Nat.lt_succ_iff_lt_or_eq.1 hj with h | h
          · exact unhide HJ j h
          · subst h; rw [unhide HJJ]; simpa [hrk] using h0)
        clear hrk HJ
        go_wp2_with fail
        go_quiet (fail)
        go_wp2_with fail
        go_roundw
        case rel => exact ⟨k + 1, _, by go_num, by omega, rfl, HJ1⟩
        case measure => simp [intOf]; omega
    · obtain rfl : M = k := by omega
      have hkm2 : ¬ (M : Int) < (M : Int) := by omega
      have HR : Hid (rankB us zs = true) := hide (rankB_yes (fun i hi => (unhide HJ) i (by rw [unhide HM] at hi; exact hi)))
      go_wp2_with fail
      go_ret
      exact ⟨by rw [← unhide WB, unhide HR]; rfl, (unhide HB1).trans (Below.mono (bel0d' nr) (unhide HB1).size)⟩

end Go.Proofs.Ytfahhjgpgccdhac
