/-
  The law FnClears returns true at every list of bytes and writes nothing that was there: the walk. No condition.
-/
import Derived.Test.YtkebjipmbgjilabDrawClears
import Derived.Test.YtkebjipmbgjilabClears
import Derived.Test.YtkebjipmbgjilabClimbs
import Derived.Test.YtkebjipmbgjilabClearFacts
namespace Go.Proofs.Ytkebjipmbgjilab
open Go.RowKit

set_option maxRecDepth 20000 in
set_option maxHeartbeats 8000000 in
theorem lawFnClears_big (a : Option Addr) (len cap : Nat) (w : World) (h : (1048576 : Int) < len) :
    Calls Try.prog 4 #[.slice a len cap] w fun e w' => e = .returned (.bool true) ∧ Below w.heap.size w w' := by
  have hd : decide ((1048576 : Int) < len) = true := by simpa using h
  go_enter Try.func4, Try.ntmps4
  go_wp2_with fail
  refine (big_any a len cap _).mono ?_
  rintro e w' ⟨rfl, hw⟩
  subst w'
  rw [hd]
  go_wp2
  go_ret
  exact ⟨rfl, Below.refl _ _⟩

set_option maxRecDepth 20000 in
set_option maxHeartbeats 8000000 in
theorem lawFnClears_small (a : Option Addr) (len cap : Nat) (w : World) (h : ¬ (1048576 : Int) < len) (hb : Bytes w a len) (hin : ∀ b off, a = some ⟨b, off, none⟩ → b < w.heap.size) :
    Calls Try.prog 4 #[.slice a len cap] w fun e w' => e = .returned (.bool true) ∧ Below w.heap.size w w' := by
  have hd0 : decide ((1048576 : Int) < len) = false := by simpa using h
  have HY := hide hb
  have HIN := hide hin
  clear hb hin h
  go_enter Try.func4, Try.ntmps4
  go_wp2_with fail
  refine (big_any a len cap _).mono ?_
  rintro e w' ⟨rfl, hw⟩
  subst w'
  rw [hd0]
  clear hd0
  go_wp2_with fail
  refine (drawClears_any a len cap _ (unhide HY) (unhide HIN)).mono ?_
  rintro e w1 ⟨start, m, pa, pc, P, qa, qc, Q, rfl, hst, rP, lP, rQ, hqc, hm, b1⟩
  have B1 := hide b1
  have RP := hide rP
  have RQ := hide rQ
  have hql := rQ.small
  have h20 := lP.1
  clear b1 rP rQ lP HY HIN
  go_wp2_with fail
  refine (implClears_any start m pa P.length pc qa Q.length qc P Q w1 (unhide RP) (unhide RQ)).mono ?_
  rintro e w2 ⟨rfl, b2⟩
  have B2 := hide ((unhide B1).trans (b2.mono (unhide B1).size))
  have RP := hide ((unhide RP).below b2)
  have RQ := hide ((unhide RQ).below b2)
  clear b2
  go_wp2_with fail
  refine (specClears_any start m pa P.length pc qa Q.length qc P Q w2 (unhide RP) (unhide RQ)).mono ?_
  rintro e w3 ⟨rfl, b3⟩
  have B3 := hide ((unhide B2).trans (b3.mono (unhide B2).size))
  have RP := hide ((unhide RP).below b3)
  have RQ := hide ((unhide RQ).below b3)
  have hq : ((clearR start P Q m).2 != (clearR start P Q m).2) = false := by simp
  clear b3
  go_wp2_with fail
  refine (implClimbs_any start pa P.length pc P w3 (unhide RP)).mono ?_
  rintro e w4 ⟨ha, hc, rfl, _, b4⟩
  have B4 := hide ((unhide B3).trans (b4.mono (unhide B3).size))
  have RP := hide ((unhide RP).below b4)
  have RQ := hide ((unhide RQ).below b4)
  clear b4
  go_wp2_with fail
  refine (specClimbs_any start pa P.length pc P w4 (unhide RP)).mono ?_
  rintro e w5 ⟨ka, kc, rfl, _, b5⟩
  have B5 := hide ((unhide B4).trans (b5.mono (unhide B4).size))
  have RP := hide ((unhide RP).below b5)
  have RQ := hide ((unhide RQ).below b5)
  clear b5 hq
  cases hph : phaseB start P
  · have hR := clearR_no (start := start) (ps := P) (qs := Q) (m := m) (by simp [clearOk, hph])
    rw [hR]
    clear hR hph
    go_wp2
    go_ret
    exact ⟨rfl, unhide B5⟩
  have hcl : (climbL start P).length = P.length := by rw [climbL_yes hph, endsL_len]
  rw [hcl]
  have hqq : ((P.length : Int) != (P.length : Int)) = false := by simp
  clear hcl hph
  cases hok : clearOk start P Q m
  · have hR := clearR_no hok
    rw [hR]
    clear hR hok
    go_wp2
    go_ret
    exact ⟨rfl, unhide B5⟩
  have hR := clearR_yes hok
  rw [hR]
  clear hR
  by_cases hm0 : m = 0
  · have hK : (clearAt start P Q m == clearAt start P Q m) = true := by simp
    generalize clearAt start P Q m = K at *
    subst hm0
    clear hok
    go_wp2
    go_ret
    exact ⟨rfl, unhide B5⟩
  obtain ⟨hless, hlaw⟩ := clears_law hok hm0
  have HLAW := hide hlaw
  have HLESS := hide hless
  have hm1 : (m == 0) = false := by simpa using hm0
  clear hlaw hless hok
  go_wp2_with fail
  refine (implClears_any start (m - 1) pa P.length pc qa Q.length qc P Q w5 (unhide RP) (unhide RQ)).mono ?_
  rintro e w6 ⟨rfl, b6⟩
  have B6 := hide ((unhide B5).trans (b6.mono (unhide B5).size))
  have RP := hide ((unhide RP).below b6)
  have RQ := hide ((unhide RQ).below b6)
  clear b6
  rw [unhide HLESS]
  clear HLESS
  rcases unhide HLAW with ⟨e1, e2⟩ | ⟨i, hi, e1, hless, hfirst, hone⟩
  · rw [e1, e2]
    clear HLAW e1 e2
    go_wp2
    go_ret
    exact ⟨rfl, unhide B6⟩
  · rw [e1]
    generalize clearAt start P Q (m - 1) = L at *
    have HFI := hide hfirst
    have HON := hide hone
    have HLE := hide hless
    clear HLAW e1 hfirst hone hless
    rcases (unhide RQ).open_ with ⟨h0, _⟩ | ⟨g, off, rfl, _, _⟩
    · omega
    have RT := hide ((unhide RQ).take (i := i) (by omega))
    have RO := hide ((unhide RQ).one (i := i) hi)
    have hi0 : (0 : Int) ≤ (i : Int) := by omega
    have hi1 : (i : Int) < (Q.length : Int) := by omega
    have hi2 : (i : Int) ≤ (qc : Int) := by omega
    have hi3 : (i : Int) + 1 ≤ (qc : Int) := by omega
    go_wp2_with fail
    refine (implClears_any start m pa P.length pc _ _ _ P (Q.take i) w6 (unhide RP) (unhide RT)).mono ?_
    rintro e w7 ⟨rfl, b7⟩
    rw [unhide HFI]
    have B7 := hide ((unhide B6).trans (b7.mono (unhide B6).size))
    have RP := hide ((unhide RP).below b7)
    have RO := hide ((unhide RO).below b7)
    clear b7 HFI RT
    go_wp2_with fail
    refine (implClears_any start m pa P.length pc _ _ _ P [(fstAt Q i, sndAt Q i)] w7 (unhide RP) (unhide RO)).mono ?_
    rintro e w8 ⟨rfl, b8⟩
    rw [unhide HON]
    have B8 := hide ((unhide B7).trans (b8.mono (unhide B7).size))
    clear b8 HON RO
    by_cases hL : L = -1
    · subst hL
      clear HLE
      go_wp2
      go_ret
      exact ⟨rfl, unhide B8⟩
    · have hLi : (i : Int) ≤ L := by rcases unhide HLE with h | h; exact absurd h hL; exact h
      have hL1 : (L == -1) = false := by simpa using hL
      clear HLE
      go_wp2
      go_ret
      exact ⟨rfl, unhide B8⟩

theorem lawFnClears (a : Option Addr) (len cap : Nat) (w : World) (hb : Bytes w a len) (hin : ∀ b off, a = some ⟨b, off, none⟩ → b < w.heap.size) :
    Calls Try.prog 4 #[.slice a len cap] w fun e w' => e = .returned (.bool true) ∧ Below w.heap.size w w' := by
  by_cases h : (1048576 : Int) < len
  · exact lawFnClears_big a len cap w h
  · exact lawFnClears_small a len cap w h hb hin

end Go.Proofs.Ytkebjipmbgjilab
