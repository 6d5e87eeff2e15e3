/-
  What the fractions of the model and of the program are: lowest terms by the greatest common divisor, the same in both, wherever the numerator is at most 10^15 either way and the denominator in 1 .. 10^15; nothing that was there is written.
-/
import Derived.Test.YtikhfacgoglcfaaMake
namespace Go.Proofs.Ytikhfacgoglcfaa
open Go.RowKit

def fracN (n d : Int) : Int := n.tdiv (Int.gcd n d)
def fracD (n d : Int) : Int := d / (Int.gcd n d)

theorem gcd_stepT (a b : Int) : Int.gcd b (a.tmod b) = Int.gcd a b := by
  unfold Int.gcd
  rw [Int.natAbs_tmod, Nat.gcd_comm a.natAbs b.natAbs, Nat.gcd_comm b.natAbs (a.natAbs % b.natAbs), ← Nat.gcd_rec]
theorem gcd_stepE (a b : Int) (ha : 0 ≤ a) : Int.gcd b (a % b) = Int.gcd a b := by
  have e : a.tmod b = a % b := Int.tmod_eq_emod_of_nonneg ha
  rw [← e]; exact gcd_stepT a b
theorem gcd_pos (n d : Int) (h : 1 ≤ d) : (1 : Int) ≤ (Int.gcd n d : Int) := by
  have : 0 < Int.gcd n d := Nat.gcd_pos_of_pos_right _ (by omega)
  omega
theorem gcd_le (n d : Int) (h : 1 ≤ d) : (Int.gcd n d : Int) ≤ d := by
  have : Int.gcd n d ≤ d.natAbs := Nat.gcd_le_right _ (by omega)
  omega

set_option maxHeartbeats 1000000 in
theorem commonDivisor_any (n d : Int) (w : World) (h0 : -1000000000000000 ≤ n) (h1 : n ≤ 1000000000000000) (h2 : 1 ≤ d) (h3 : d ≤ 1000000000000000) :
    Calls Try.prog 29 #[.int .i64 n, .int .i64 d] w fun e w' => e = .returned (.int .i64 (Int.gcd n d : Int)) ∧ ∃ m, w' = w.drewN m := by
  go_enter Try.func29, Try.ntmps29
  go_wp2
  go_loopw [0, 1] (fun x y wr => ∃ a b : Int, ∃ m : Nat, x = .int .i64 a ∧ y = .int .i64 b ∧ -1000000000000000 ≤ a ∧ a ≤ 1000000000000000 ∧ -1000000000000000 ≤ b ∧ b ≤ 1000000000000000 ∧ Hid (Int.gcd a b = Int.gcd n d) ∧ wr = w.drewN m) (fun _ y _ => (intOf y).natAbs)
  case atStart => exact ⟨n, d, 0, rfl, rfl, h0, h1, by omega, h3, (rfl : Int.gcd n d = Int.gcd n d), rfl⟩
  case round =>
    obtain ⟨a, b, m, rfl, rfl, ha0, ha1, hb0, hb1, hg, rfl⟩ := hrel
    by_cases hb : b = 0
    · subst hb
      have hg2 : a.natAbs = Int.gcd n d := by have := hg.out; simpa using this
      have HG := hide hg2
      clear hg2
      go_wp2
      all_goals
        go_ret
        exact ⟨ret_int (by have := unhide HG; omega), m, rfl⟩
    · have hbb : (b != 0) = true := by simp [hb]
      have hbz : (b == 0) = false := by simp [hb]
      have hlt : (a.tmod b).natAbs < b.natAbs := by rw [Int.natAbs_tmod]; exact Nat.mod_lt _ (by omega)
      have HG := hide ((gcd_stepT a b).trans hg.out)
      have HL := hide hlt
      have hl1 : -1000000000000000 ≤ a.tmod b := by omega
      have hl2 : a.tmod b ≤ 1000000000000000 := by omega
      clear hlt
      go_wp2
      go_quiet (fail)
      go_wp2
      go_roundw
      case rel => exact ⟨b, a.tmod b, _, rfl, rfl, hb0, hb1, hl1, hl2, unhide HG, by first | rfl | exact World.drewN_drewN _ _ _⟩
      case measure => simp only [intOf]; exact unhide HL

set_option maxHeartbeats 1000000 in
theorem fracOf_any (n d : Int) (w : World) (h0 : -1000000000000000 ≤ n) (h1 : n ≤ 1000000000000000) (h2 : 1 ≤ d) (h3 : d ≤ 1000000000000000) :
    Calls Try.prog 17 #[.int .i64 n, .int .i64 d] w fun e w' => e = .returned (.agg #[.int .i64 (fracN n d), .int .i64 (fracD n d)]) ∧ Below w.heap.size w w' := by
  have g0 := gcd_pos n d h2
  have g1 := gcd_le n d h2
  go_enter Try.func17, Try.ntmps17
  go_wp2_with fail
  refine (commonDivisor_any _ _ _ h0 h1 h2 h3).mono ?_
  rintro e w' ⟨rfl, m, rfl⟩
  generalize hg : (Int.gcd n d : Int) = g at *
  have hgz : (g == 0) = false := by simp; omega
  have HG := hide hg
  clear hg
  go_wp2_with fail
  go_region
  all_goals
    go_wp2_with fail
    refine bodyPost_ret (v := .agg #[.int .i64 (n.tdiv g), .int .i64 (d / g)]) (by simp [results, Try.results17, go_sem]) rfl ⟨?_, ?_⟩
    · have := unhide HG; unfold fracN fracD; rw [this]
    · repeat (first | exact bel1d _ _ | exact bel1 _ | refine Below.setCell ?_ (by simp) _ | refine below_drewN ?_ _ | refine Below.drew ?_)

/-- The copying of two numbers by Euclid, both at least 0. -/
theorem emod_lt (a b : Int) (hb : 0 < b) : 0 ≤ a % b ∧ a % b < b := ⟨Int.emod_nonneg _ (by omega), Int.emod_lt_of_pos _ hb⟩

end Go.Proofs.Ytikhfacgoglcfaa
