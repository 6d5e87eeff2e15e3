/-
  What Coldest answers in the model and in the program: the same height, number and flag at every air; nothing that was there is written.
-/
import Derived.Test.YtbaocifpifbldaiColdPure
import Derived.Deep.DrawnRows
namespace Go.Proofs.Ytbaocifpifbldai
open Go.RowKit
attribute [local go_sem ↓] Go.wp_at_zero Go.wp_at_succ

set_option maxHeartbeats 1000000 in
theorem specCold_no (b : Int) (a1 a2 : Option Addr) (l1 c1 l2 c2 : Nat) (xs ys : List Int) (w : World) (h1 : Row w a1 l1 xs) (h2 : Row w a2 l2 ys) (hno : airB b xs ys = false) :
    Calls Try.prog 24 #[.agg #[.int .i64 b, .slice a1 l1 c1, .slice a2 l2 c2]] w fun e w' => e = .returned (.tuple #[.int .i64 0, .int .i64 0, .bool false]) ∧ Below w.heap.size w w' := by
  have H1 := hide (h1.alloc (.cells #[.int .i64 b, .slice a1 l1 c1, .slice a2 l2 c2] 42))
  have H2 := hide (h2.alloc (.cells #[.int .i64 b, .slice a1 l1 c1, .slice a2 l2 c2] 42))
  clear h1 h2
  go_enter Try.func24, Try.ntmps24
  go_wp2_with fail
  refine (specAirOk_any _ _ _ _ _ _ _ xs ys _ (unhide H1) (unhide H2)).mono ?_
  rintro e w1 ⟨rfl, b1⟩
  go_wp2_with fail
  go_ret3
  exact ⟨rfl, (bel1 _).trans (b1.mono (by simp))⟩

set_option maxHeartbeats 2000000 in
theorem specCold_yes (b : Int) (a1 a2 : Option Addr) (l1 c1 l2 c2 : Nat) (xs ys : List Int) (w : World) (h1 : Row w a1 l1 xs) (h2 : Row w a2 l2 ys) (hyes : airB b xs ys = true) :
    Calls Try.prog 24 #[.agg #[.int .i64 b, .slice a1 l1 c1, .slice a2 l2 c2]] w fun e w' => e = .returned (.tuple #[.int .i64 (coldH b xs ys l2), .int .i64 (coldT b xs ys l2), .bool true]) ∧ Below w.heap.size w w' := by
  have F := airB_facts hyes
  have hn := F.many
  have hbase := F.base
  have H1 := hide (h1.alloc (.cells #[.int .i64 b, .slice a1 l1 c1, .slice a2 l2 c2] 42))
  have H2 := hide (h2.alloc (.cells #[.int .i64 b, .slice a1 l1 c1, .slice a2 l2 c2] 42))
  have hl2 := h2.len_eq
  subst hl2
  clear h1 h2
  have HF := hide F
  have HY := hide hyes
  clear F
  go_enter Try.func24, Try.ntmps24
  go_wp2_with fail
  refine (specAirOk_any _ _ _ _ _ _ _ xs ys _ (unhide H1) (unhide H2)).mono ?_
  rintro e w1 ⟨rfl, b1⟩
  have hs1 : w.heap.size < w1.heap.size := by have := b1.size; simp at this; omega
  have x0 : w1.cell? ⟨w.heap.size, 0, none⟩ = some (.int .i64 b) := (b1.cell (p := ⟨w.heap.size, 0, none⟩) (by simp)).trans (by simp [go_sem])
  have x1 : w1.cell? ⟨w.heap.size, 1, none⟩ = some (.slice a1 l1 c1) := (b1.cell (p := ⟨w.heap.size, 1, none⟩) (by simp)).trans (by simp [go_sem])
  have x2 : w1.cell? ⟨w.heap.size, 2, none⟩ = some (.slice a2 ys.length c2) := (b1.cell (p := ⟨w.heap.size, 2, none⟩) (by simp)).trans (by simp [go_sem])
  have B1 := hide ((bel1 _).trans (b1.mono (by simp)))
  have H3 := hide ((unhide H1).below b1)
  have H4 := hide ((unhide H2).below b1)
  rcases ((unhide H2).below b1).open_ with ⟨h0, _⟩ | ⟨bb, off, rfl, _, hc⟩
  · omega
  have HC := hide hc
  clear b1 hc H1 H2
  go_wp2
  clear hyes
  go_quiet (fail)
  go_wp2
  go_loopw [5, 6, 7] (fun p t i wr => ∃ k : Nat, k ≤ ys.length ∧ i = .int .i64 k ∧ p = .int .i64 (coldH b xs ys k) ∧ t = .int .i64 (coldT b xs ys k) ∧ Below w1.heap.size w1 wr) (fun _ _ i _ => ys.length - (intOf i).toNat)
  case atStart => exact ⟨0, by omega, rfl, rfl, rfl, bel0d' _⟩
  case round =>
    obtain ⟨k, hk, rfl, rfl, rfl, hb⟩ := hrel
    have x0 := (hb.cell (p := ⟨w.heap.size, 0, none⟩) hs1).trans x0
    have x1 := (hb.cell (p := ⟨w.heap.size, 1, none⟩) hs1).trans x1
    have x2 := (hb.cell (p := ⟨w.heap.size, 2, none⟩) hs1).trans x2
    have HB := hide hb
    clear hb
    by_cases hlt : k < ys.length
    · have hcy := ((unhide HB).cell (block_lt_of_cell ((unhide HC) k hlt))).trans ((unhide HC) k hlt)
      have hby := block_lt_of_cell hcy
      have hi0 : (0 : Int) ≤ (k : Int) := by omega
      have hi1 : (k : Int) < (ys.length : Int) := by omega
      have HW := hide (warm_at_top (unhide HY) k hlt)
      have hsr : w.heap.size < wr.heap.size := by have := (unhide HB).size; omega
      go_wp2
      go_region_held3 (fun w' => w'.cell? ⟨w.heap.size, 0, none⟩ = some (.int .i64 b) ∧ w'.cell? ⟨w.heap.size, 1, none⟩ = some (.slice a1 l1 c1) ∧ w'.cell? ⟨w.heap.size, 2, none⟩ = some (.slice (some ⟨bb, off, none⟩) ys.length c2) ∧ w'.cell? ⟨bb, off + k, none⟩ = some (.int .i64 (nth ys k))) (go_keep)
        (first
          | (go_at_call 22; refine (specWarm_any _ _ _ _ _ _ _ xs ys _ _ (((unhide H3).below (unhide HB)).drewN 1) (((unhide H4).below (unhide HB)).drewN 1)).mono ?_; rintro e w2 ⟨rfl, b2⟩; have x0 := (b2.cell (p := ⟨w.heap.size, 0, none⟩) hsr).trans x0; have x1 := (b2.cell (p := ⟨w.heap.size, 1, none⟩) hsr).trans x1; have x2 := (b2.cell (p := ⟨w.heap.size, 2, none⟩) hsr).trans x2; have hcy := (b2.cell (p := ⟨bb, off + k, none⟩) hby).trans hcy))
      have HB2 := hide ((unhide HB).trans (((bel0d 1).trans b2).mono (unhide HB).size))
      clear b2
      rw [(unhide HW).1]
      by_cases hcold : cumT b xs ys (k + 1) < coldT b xs ys k
      · have HT := hide (cold_take hcold)
        go_wp2
        go_roundw
        case rel => exact ⟨k + 1, by omega, by go_num, by rw [(unhide HT).1], by rw [(unhide HT).2], unhide HB2⟩
        case measure => simp [intOf]; omega
      · have HT := hide (cold_pass hcold)
        go_wp2
        go_roundw
        case rel => exact ⟨k + 1, by omega, by go_num, by rw [(unhide HT).1], by rw [(unhide HT).2], unhide HB2⟩
        case measure => simp [intOf]; omega
    · have hkk : k = ys.length := by omega
      subst hkk
      go_wp2
      go_ret3
      exact ⟨rfl, (unhide B1).trans ((unhide HB).mono (by omega))⟩

end Go.Proofs.Ytbaocifpifbldai
