/-
  What Coldest answers in the program: the model's height, number and flag at every air; nothing that was there is written.
-/
import Derived.Test.YtbaocifpifbldaaCold
namespace Go.Proofs.Ytbaocifpifbldaa
open Go.RowKit

set_option maxHeartbeats 1000000 in
theorem implCold_no (b : Int) (a1 a2 : Option Addr) (l1 c1 l2 c2 : Nat) (xs ys : List Int) (w : World) (h1 : Row w a1 l1 xs) (h2 : Row w a2 l2 ys) (hno : airB b xs ys = false) :
    Calls Try.prog 19 #[.agg #[.int .i64 b, .slice a1 l1 c1, .slice a2 l2 c2]] w fun e w' => e = .returned (.tuple #[.int .i64 0, .int .i64 0, .bool false]) ∧ Below w.heap.size w w' := by
  have H1 := hide (h1.alloc (.cells #[.int .i64 b, .slice a1 l1 c1, .slice a2 l2 c2] 43))
  have H2 := hide (h2.alloc (.cells #[.int .i64 b, .slice a1 l1 c1, .slice a2 l2 c2] 43))
  clear h1 h2
  go_enter Try.func19, Try.ntmps19
  go_wp2_with fail
  refine (implAirOk_any _ _ _ _ _ _ _ xs ys _ (unhide H1) (unhide H2)).mono ?_
  rintro e w1 ⟨rfl, b1⟩
  go_wp2_with fail
  go_ret3
  exact ⟨rfl, (bel1 _).trans (b1.mono (by simp))⟩

set_option maxHeartbeats 2000000 in
theorem implCold_yes (b : Int) (a1 a2 : Option Addr) (l1 c1 l2 c2 : Nat) (xs ys : List Int) (w : World) (h1 : Row w a1 l1 xs) (h2 : Row w a2 l2 ys) (hyes : airB b xs ys = true) :
    Calls Try.prog 19 #[.agg #[.int .i64 b, .slice a1 l1 c1, .slice a2 l2 c2]] w fun e w' => e = .returned (.tuple #[.int .i64 (coldH b xs ys l2), .int .i64 (coldT b xs ys l2), .bool true]) ∧ Below w.heap.size w w' := by
  have F := airB_facts hyes
  have hn := F.many
  have hbase := F.base
  have H1 := hide (h1.alloc (.cells #[.int .i64 b, .slice a1 l1 c1, .slice a2 l2 c2] 43))
  have H2 := hide (h2.alloc (.cells #[.int .i64 b, .slice a1 l1 c1, .slice a2 l2 c2] 43))
  have hl2 := h2.len_eq
  have hl1 := h1.len_eq
  subst hl2
  subst hl1
  clear h1 h2
  have HF := hide F
  clear F
  go_enter Try.func19, Try.ntmps19
  go_wp2_with fail
  refine (implAirOk_any _ _ _ _ _ _ _ xs ys _ (unhide H1) (unhide H2)).mono ?_
  rintro e w1 ⟨rfl, b1⟩
  have hs1 : w.heap.size < w1.heap.size := by have := b1.size; simp at this; omega
  have x0 : w1.cell? ⟨w.heap.size, 0, none⟩ = some (.int .i64 b) := (b1.cell (p := ⟨w.heap.size, 0, none⟩) (by simp)).trans (by simp [go_sem])
  have x1 : w1.cell? ⟨w.heap.size, 1, none⟩ = some (.slice a1 xs.length c1) := (b1.cell (p := ⟨w.heap.size, 1, none⟩) (by simp)).trans (by simp [go_sem])
  have x2 : w1.cell? ⟨w.heap.size, 2, none⟩ = some (.slice a2 ys.length c2) := (b1.cell (p := ⟨w.heap.size, 2, none⟩) (by simp)).trans (by simp [go_sem])
  have B1 := hide ((bel1 _).trans (b1.mono (by simp)))
  have hml := (unhide HF).len
  rcases ((unhide H1).below b1).open_ with ⟨h0, _⟩ | ⟨bb1, off1, rfl, _, hc1⟩
  · omega
  rcases ((unhide H2).below b1).open_ with ⟨h0, _⟩ | ⟨bb, off, rfl, _, hc⟩
  · omega
  have HC := hide hc
  have HC1 := hide hc1
  clear b1 hc hc1 H1 H2 hml
  go_wp2
  clear hyes
  go_quiet (fail)
  go_wp2
  go_loopw [5, 6, 7, 8, 21] (fun p t s f i wr => ∃ k : Nat, k ≤ ys.length ∧ i = .int .i64 k ∧ p = .int .i64 (coldH b xs ys k) ∧ t = .int .i64 (coldT b xs ys k) ∧ s = .int .i64 (cumT b xs ys k) ∧ f = .int .i64 (cumF ys k) ∧ Below w1.heap.size w1 wr) (fun _ _ _ _ i _ => ys.length - (intOf i).toNat)
  case atStart => exact ⟨0, by omega, rfl, rfl, rfl, rfl, rfl, bel0d' _⟩
  case round =>
    obtain ⟨k, hk, rfl, rfl, rfl, rfl, rfl, hb⟩ := hrel
    have x1 := (hb.cell (p := ⟨w.heap.size, 1, none⟩) hs1).trans x1
    have HB := hide hb
    clear hb
    by_cases hlt : k < ys.length
    · have hcy := ((unhide HB).cell (block_lt_of_cell ((unhide HC) k hlt))).trans ((unhide HC) k hlt)
      have hcx := ((unhide HB).cell (block_lt_of_cell ((unhide HC1) k (by have := (unhide HF).len; omega)))).trans ((unhide HC1) k (by have := (unhide HF).len; omega))
      have hi0 : (0 : Int) ≤ (k : Int) := by omega
      have hi1 : (k : Int) < (ys.length : Int) := by omega
      have hi2 : (k : Int) < (xs.length : Int) := by have := (unhide HF).len; omega
      have hcb := cum_bd (unhide HF) k hk
      have hpr := cum_prod (unhide HF) k hlt
      have hfb := cumF_bd (unhide HF) k hk
      have htop := (unhide HF).tops k hlt
      by_cases hcold : cumT b xs ys (k + 1) < coldT b xs ys k
      · have HT := hide (cold_take hcold)
        rw [cumT_succ] at hcold
        go_wp2
        go_roundw
        case rel => exact ⟨k + 1, by omega, by go_num, by rw [(unhide HT).1], by rw [(unhide HT).2, cumT_succ], by rw [cumT_succ], by rw [cumF_succ], unhide HB⟩
        case measure => simp [intOf]; omega
      · have HT := hide (cold_pass hcold)
        rw [cumT_succ] at hcold
        go_wp2
        go_roundw
        case rel => exact ⟨k + 1, by omega, by go_num, by rw [(unhide HT).1], by rw [(unhide HT).2], by rw [cumT_succ], by rw [cumF_succ], unhide HB⟩
        case measure => simp [intOf]; omega
    · have hkk : k = ys.length := by omega
      subst hkk
      go_wp2
      go_ret3
      exact ⟨rfl, (unhide B1).trans ((unhide HB).mono (by omega))⟩

/-- What Coldest answers. -/
def coldA (b : Int) (ss ts : List Int) : Int := if airB b ss ts then coldH b ss ts ts.length else 0
def coldB (b : Int) (ss ts : List Int) : Int := if airB b ss ts then coldT b ss ts ts.length else 0

theorem implCold_any (b : Int) (a1 a2 : Option Addr) (l1 c1 l2 c2 : Nat) (xs ys : List Int) (w : World) (h1 : Row w a1 l1 xs) (h2 : Row w a2 l2 ys) :
    Calls Try.prog 19 #[.agg #[.int .i64 b, .slice a1 l1 c1, .slice a2 l2 c2]] w fun e w' => e = .returned (.tuple #[.int .i64 (coldA b xs ys), .int .i64 (coldB b xs ys), .bool (airB b xs ys)]) ∧ Below w.heap.size w w' := by
  have hl2 := h2.len_eq
  cases ha : airB b xs ys
  · have e1 : coldA b xs ys = 0 := by simp [coldA, ha]
    have e2 : coldB b xs ys = 0 := by simp [coldB, ha]
    rw [e1, e2]
    exact implCold_no b a1 a2 l1 c1 l2 c2 xs ys w h1 h2 ha
  · have e1 : coldA b xs ys = coldH b xs ys l2 := by simp [coldA, ha, hl2]
    have e2 : coldB b xs ys = coldT b xs ys l2 := by simp [coldB, ha, hl2]
    rw [e1, e2]
    exact implCold_yes b a1 a2 l1 c1 l2 c2 xs ys w h1 h2 ha

end Go.Proofs.Ytbaocifpifbldaa
