/-
  What the model's Flights answers: as the plain function. At every crack; nothing that was there is written.
-/
import Derived.Test.YtnpohiceefkhdaoCrackCell
namespace Go.Proofs.Ytnpohiceefkhdao
open Go.RowKit

set_option maxRecDepth 20000 in
set_option maxHeartbeats 2000000 in
theorem specFlights_any (n l g : Int) (w : World) :
    Calls Try.prog 12 #[.agg #[.int .i64 n, .int .i64 l, .int .i64 g]] w fun x w' => x = .returned (.tuple #[.int .i64 (flN n l g), .bool (flB n l g)]) ∧ Below w.heap.size w w' := by
  have R0 := hide (Blk.new (w := w) [.int .i64 n, .int .i64 l, .int .i64 g] 31)
  have B0 := hide (bel1 (w := w) (Obj.cells #[.int .i64 n, .int .i64 l, .int .i64 g] 31))
  cases h : crackB n l g with
  | false =>
    have HE := hide (fl_not h)
    go_enter Try.func12, Try.ntmps12
    go_wp2_with fail
    refine (l6Crack_is _ _ _ _ h).mono ?_
    rintro x w1 ⟨rfl, b1⟩
    have B1 := hide ((unhide B0).trans (b1.mono (by simp)))
    clear b1
    go_wp2_with fail
    go_ret2
    exact ⟨ret_ib (unhide HE).2.symm (unhide HE).1.symm, unhide B1⟩
  | true =>
    obtain ⟨f1, f2, f3, f4, f5⟩ := crackB_facts h
    go_enter Try.func12, Try.ntmps12
    go_wp2_with fail
    refine (l6Crack_is _ _ _ _ h).mono ?_
    rintro x w1 ⟨rfl, b1⟩
    have B1 := hide ((unhide B0).trans (b1.mono (by simp)))
    have R1 := hide ((unhide R0).below b1)
    have HC := hide h
    clear b1 h
    go_wp2_with fail
    go_loopw [4] (fun i wr => ∃ (k : Nat) (K : Int), i = .int .i64 K ∧ Hid (K = (k : Int) + 1) ∧ (1 ≤ K ∧ K ≤ 5001) ∧ Hid (∀ j, j < k → crackAt n g (j + 1) ≤ l) ∧ Ck wr w.heap.size (crackAt n g k) l g ∧ Below w.heap.size w wr) (fun i _ => 5002 - (intOf i).toNat)
    case atStart => exact ⟨0, 1, rfl, hide rfl, by omega, hide (fun j hj => by omega), unhide R1, unhide B1⟩
    case round =>
      clear R0 B0 R1 B1
      obtain ⟨k, K, rfl, HK, hk, HN, hck, hbel⟩ := hrel
      have c0 : wr.cell? ⟨w.heap.size, 0, none⟩ = some (.int .i64 (crackAt n g k)) := hck.c 0 (by simp)
      have c1 : wr.cell? ⟨w.heap.size, 1, none⟩ = some (.int .i64 l) := hck.c 1 (by simp)
      have c2 : wr.cell? ⟨w.heap.size, 2, none⟩ = some (.int .i64 g) := hck.c 2 (by simp)
      have z0 : wr.frozen? ⟨w.heap.size, 0, none⟩ = false := hck.f 0 (by simp)
      have HR := hide hck
      have HB := hide hbel
      clear hck hbel
      by_cases hlt : K ≤ 5000
      · have hge := crackAt_ge f1 f4 k
        have HLT : Hid (k < 5000) := hide (by have := unhide HK; omega)
        have hle : crackAt n g k ≤ l := by
          cases k with
          | zero => exact f2
          | succ j => exact unhide HN j (by omega)
        have hbd := cgrow_bd hge (show crackAt n g k ≤ 1000000 by omega) f4 f5
        have HS : Hid (crackAt n g (k + 1) = crackAt n g k + (crackAt n g k * g + 999) / 1000) := hide rfl
        have HR1 := hide (ck_set0 (unhide HR) (crackAt n g k + (crackAt n g k * g + 999) / 1000))
        have HB1 := hide ((unhide HB).setCell (p := ⟨w.heap.size, 0, none⟩) (Nat.le_refl _) (.int .i64 (crackAt n g k + (crackAt n g k * g + 999) / 1000)))
        by_cases ho : l < crackAt n g k + (crackAt n g k * g + 999) / 1000
        · have HE := hide (fl_hit (unhide HC) (unhide HLT) (by rw [unhide HS]; exact ho) (unhide HN))
          go_wp2
          go_ret2
          exact ⟨ret_ib (by rw [(unhide HE).2, unhide HK]) (unhide HE).1.symm, unhide HB1⟩
        · have HN1 : Hid (∀ j, j < k + 1 → crackAt n g (j + 1) ≤ l) := hide fun j hj => by
            rcases Nat.lt_succ_iff_lt_or_eq.1 hj with h | h
            · exact unhide HN j h
            · subst h; rw [unhide HS]; omega
          go_wp2
          go_roundw
          case rel => exact ⟨k + 1, K + 1, by go_num, hide (by rw [unhide HK]; rfl), by omega, HN1, by rw [unhide HS]; exact unhide HR1, unhide HB1⟩
          case measure => simp [intOf]; omega
      · have HE := hide (fl_none (n := n) (l := l) (g := g) (fun j hj => unhide HN j (by have := unhide HK; omega)))
        go_wp2
        go_ret2
        exact ⟨ret_ib (unhide HE).2.symm (unhide HE).1.symm, unhide HB⟩

end Go.Proofs.Ytnpohiceefkhdao
