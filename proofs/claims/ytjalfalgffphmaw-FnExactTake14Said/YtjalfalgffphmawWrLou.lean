/-
  How loud names are, and which rules are quiet in a phase, in the model: the plain answers; nothing that was there is written.
-/
import Derived.Test.YtjalfalgffphmawWrOk
import Derived.Test.YtjalfalgffphmawStrRow
import Derived.Test.YtjalfalgffphmawMinMax
import Derived.Test.YtjalfalgffphmawApps1
import Derived.Test.YtjalfalgffphmawOwnI
namespace Go.Proofs.Ytjalfalgffphmaw
open Go.RowKit

theorem mxW_is {c : Int} (x y : Int) (w : World) (h : max x y = c) : Calls Try.prog 46 #[.int .i64 x, .int .i64 y] w fun e w' => e = .returned (.int .i64 c) ∧ w' = w := by subst h; exact l1Max_eq x y w
theorem specRulesOk_is {c : Bool} (ad : Option Addr) (len cap : Nat) (rs : List Wr) (w : World) (hr : RowW w ad len rs) (hl : len ≤ 1048576) (hc : wrB rs = c) :
    Calls Try.prog 28 #[.slice ad len cap] w fun e w' => e = .returned (.bool c) ∧ Below w.heap.size w w' := by subst hc; exact specRulesOk_any ad len cap rs w hr hl
set_option maxRecDepth 20000 in
set_option maxHeartbeats 1000000 in
theorem specLoudest_any (ad : Option Addr) (len cap : Nat) (rs : List Wr) (bd : Option Addr) (len2 cap2 : Nat) (ts : List ByteArray) (w : World) (hr : RowW w ad len rs) (hl : len ≤ 1048576) (hr2 : RowE 1 stC w bd len2 ts) :
    Calls Try.prog 23 #[.slice ad len cap, .slice bd len2 cap2] w fun e w' => e = .returned (.tuple #[.int .i64 (loR rs ts), .bool (loB rs ts)]) ∧ Below w.heap.size w w' := by
  have hz := hr.len_eq
  have hz2 := hr2.len_eq
  have hs2 := hr2.small
  subst hz
  subst hz2
  have HR := hide hr
  have HR2 := hide hr2
  cases q1 : wrB rs with
  | false =>
    have e1 : loB rs ts = false := by simp [loB, q1]
    have e2 : loR rs ts = 0 := by simp [loR, e1]
    rw [e1, e2]
    clear e1 e2 hr hr2
    go_enter Try.func23, Try.ntmps23
    go_wp2_with (go_at_call 28; refine (specRulesOk_is _ _ _ rs _ (unhide HR) hl q1).mono ?_; rintro e w1 ⟨rfl, b1⟩; have B1 := hide b1; clear b1)
    go_ret2
    exact ⟨rfl, unhide B1⟩
  | true =>
    by_cases q2 : ts.length ≤ 30
    · have EB : Hid (loB rs ts = true) := hide (by simp [loB, q1, q2])
      have ER : Hid (loR rs ts = loK rs ts ts.length) := hide (by simp [loR, unhide EB])
      have hq2 : ¬ (30 : Int) < (ts.length : Int) := by omega
      have HBD := hide (loK_bd q1 ts)
      have HO := hide hr.open_
      have HO2 := hide hr2.open1
      have HQ1 := hide q1
      clear hr hr2
      go_enter Try.func23, Try.ntmps23
      go_wp2_with (go_at_call 28; refine (specRulesOk_is _ _ _ rs _ (unhide HR) hl (unhide HQ1)).mono ?_; rintro e w1 ⟨rfl, b1⟩; have B1 := hide b1; clear b1)
      go_loopw [6, 7] (fun s6 s7 wr => ∃ i : Nat, i ≤ ts.length ∧ s6 = .int .i64 (loK rs ts i) ∧ s7 = .int .i64 (i : Int) ∧ wr = w1) (fun _ s7 _ => ts.length - (intOf s7).toNat)
      case atStart => exact ⟨0, Nat.zero_le _, rfl, rfl, rfl⟩
      case round =>
        obtain ⟨i, hi, rfl, rfl, hwr⟩ := hrel
        subst wr
        by_cases hlt : i < ts.length
        · rcases (unhide HO2) with ⟨h0, _⟩ | ⟨b2, off2, rfl, _, hc2⟩
          · omega
          have t0 : w1.cell? ⟨b2, off2 + i, none⟩ = some (.string (elAt ts i)) := ((unhide B1).cell (block_lt_of_cell (hc2 i hlt))).trans (hc2 i hlt)
          have k0 : (0 : Int) ≤ (i : Int) := by omega
          have k1 : (i : Int) < (ts.length : Int) := by omega
          obtain ⟨d, hd⟩ : ∃ d, elAt ts i = d := ⟨_, rfl⟩
          rw [hd] at t0
          have R1 := hide ((unhide HR).below (unhide B1))
          have HFN : Hid (∀ W, RowW W ad rs.length rs → Calls Try.prog 45 #[.slice ad rs.length cap, .string d] W fun e w' => e = .returned (.int .i64 (wfI rs d)) ∧ w' = W) := hide (fun W hr => l14Find_any _ _ cap rs d W hr hl)
          have HI0 : Hid (wfI rs d = if wfK rs d < rs.length then (wfK rs d : Int) else -1) := hide rfl
          have HS : Hid (loK rs ts (i + 1) = if wfK rs d < rs.length then max (loK rs ts i) (elAt rs (wfK rs d)).r else loK rs ts i) := hide (by rw [← hd]; rfl)
          have lb := (unhide HBD) i
          obtain ⟨K, hK⟩ : ∃ K, wfK rs d = K := ⟨_, rfl⟩
          obtain ⟨L, hL⟩ : ∃ L, loK rs ts i = L := ⟨_, rfl⟩
          rw [hK] at HI0 HS
          rw [hL] at HS lb
          rw [hL]
          clear hK hL hd hc2
          by_cases hk : K < rs.length
          · rw [if_pos hk] at HI0 HS
            rw [unhide HI0] at HFN
            rcases (unhide HO) with ⟨h0, _⟩ | ⟨bb, off, rfl, _, hc⟩
            · omega
            obtain ⟨qa, ql, qc, hat, _, _, _⟩ := hc K hk
            have m1 := (hat.below (unhide B1)).c1
            have rb := wrR_facts (unhide HQ1) hk
            have hk1 : (0 : Int) ≤ (K : Int) := by omega
            have hk2 : (K : Int) < (rs.length : Int) := by omega
            clear hc hat
            go_wp2_with (first
              | (go_at_call 45; refine ((unhide HFN) _ (unhide R1)).mono ?_; rintro e w' ⟨rfl, hw⟩; subst w')
              | (go_at_call 46; refine (mxW_is _ _ _ rfl).mono ?_; rintro e w' ⟨rfl, hw⟩; subst w'))
            go_roundw
            case rel => exact ⟨i + 1, by omega, by rw [unhide HS], by go_num, by first | rfl | trivial⟩
            case measure => simp [intOf]; omega
          · rw [if_neg hk] at HI0 HS
            rw [unhide HI0] at HFN
            go_wp2_with (go_at_call 45; refine ((unhide HFN) _ (unhide R1)).mono ?_; rintro e w' ⟨rfl, hw⟩; subst w')
            go_roundw
            case rel => exact ⟨i + 1, by omega, by rw [unhide HS], by go_num, by first | rfl | trivial⟩
            case measure => simp [intOf]; omega
        · have k1 : ¬ (i : Int) < (ts.length : Int) := by omega
          have hie : i = ts.length := by omega
          have HI := hide hie
          clear hie
          go_wp2_with fail
          go_ret2
          refine ⟨?_, unhide B1⟩
          rw [unhide ER, unhide EB, ← unhide HI]
          try rfl
    · have e1 : loB rs ts = false := by simp [loB, q2]
      have e2 : loR rs ts = 0 := by simp [loR, e1]
      have hq2 : (30 : Int) < (ts.length : Int) := by omega
      rw [e1, e2]
      clear e1 e2 hr hr2
      go_enter Try.func23, Try.ntmps23
      go_wp2_with (go_at_call 28; refine (specRulesOk_is _ _ _ rs _ (unhide HR) hl q1).mono ?_; rintro e w1 ⟨rfl, b1⟩; have B1 := hide b1; clear b1)
      go_ret2
      exact ⟨rfl, unhide B1⟩

end Go.Proofs.Ytjalfalgffphmaw
