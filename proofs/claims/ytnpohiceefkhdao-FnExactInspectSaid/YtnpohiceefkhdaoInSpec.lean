/-
  What the model's Inspect answers: as the plain function. At every argument; nothing that was there is written.
-/
import Derived.Test.YtnpohiceefkhdaoFlSpec
namespace Go.Proofs.Ytnpohiceefkhdao
open Go.RowKit

set_option maxRecDepth 20000 in
set_option maxHeartbeats 2000000 in
theorem specInspect_any (n l g a p : Int) (w : World) :
    Calls Try.prog 15 #[.agg #[.int .i64 n, .int .i64 l, .int .i64 g], .int .i64 a, .int .i64 p] w fun x w' => x = .returned (.tuple #[.int .i64 (lookN n l g a p), .bool (lookB n l g a p)]) ∧ Below w.heap.size w w' := by
  have R0 := hide (Blk.new (w := w) [.int .i64 n, .int .i64 l, .int .i64 g] 31)
  have B0 := hide (bel1 (w := w) (Obj.cells #[.int .i64 n, .int .i64 l, .int .i64 g] 31))
  rcases three (crackB n l g) (inB a 1 l) (inB p 1 20) with ⟨h, hv⟩ | ⟨h, h', hv⟩ | ⟨h, h', h'', hv⟩ | ⟨h, h', h'', hv⟩
  iterate 3
    have HB : Hid (lookB n l g a p = false) := hide (by unfold lookB; rw [hv]; rfl)
    have HE := hide (look_not (unhide HB))
    clear hv
    go_enter Try.func15, Try.ntmps15
    go_wp2_with fail
    refine (l6Crack_is _ _ _ _ h).mono ?_
    rintro x w1 ⟨rfl, b1⟩
    have B1 := hide ((unhide B0).trans (b1.mono (by simp)))
    have R1 := (unhide R0).below b1
    have c1 : w1.cell? ⟨w.heap.size, 1, none⟩ = some (.int .i64 l) := R1.c 1 (by simp)
    clear b1 R1
    go_wp2_with (go_at_call 41; refine (l1In_any _ _ _ _).mono ?_; rintro e w' ⟨rfl, hw⟩; subst w')
    go_ret2
    exact ⟨ret_ib (unhide HE).symm (unhide HB).symm, unhide B1⟩
  have HC := hide (crackB_other h h')
  have hp : 1 ≤ p ∧ p ≤ 20 := in_facts h''
  have HV : Hid (lookB n l g a p = (flB a l g && decide (0 < (flN a l g - 1) / p))) := hide (by unfold lookB; rw [hv, Bool.true_and])
  have HN : Hid (lookN n l g a p = if (flB a l g && decide (0 < (flN a l g - 1) / p)) = true then (flN a l g - 1) / p else 0) := hide (by unfold lookN; rw [unhide HV])
  clear hv
  go_enter Try.func15, Try.ntmps15
  go_wp2_with fail
  refine (l6Crack_is _ _ _ _ h).mono ?_
  rintro x w1 ⟨rfl, b1⟩
  have B1 := (unhide B0).trans (b1.mono (by simp))
  have R1 := (unhide R0).below b1
  have c0 : w1.cell? ⟨w.heap.size, 0, none⟩ = some (.int .i64 n) := R1.c 0 (by simp)
  have c1 : w1.cell? ⟨w.heap.size, 1, none⟩ = some (.int .i64 l) := R1.c 1 (by simp)
  have c2 : w1.cell? ⟨w.heap.size, 2, none⟩ = some (.int .i64 g) := R1.c 2 (by simp)
  have B2 := hide B1
  clear b1 R1 B1 h
  go_wp2_with (go_at_call 41; refine (l1In_any _ _ _ _).mono ?_; rintro e w' ⟨rfl, hw⟩; subst w')
  refine (specFlights_any a l g _).mono ?_
  rintro x w3 ⟨rfl, b3⟩
  have B3 := hide ((unhide B2).trans (b3.mono (unhide B2).size))
  clear b3 c0 c1 c2 h' h''
  cases hf : flB a l g with
  | false =>
    go_wp2_with fail
    go_ret2
    exact ⟨ret_ib (by rw [unhide HN, hf]; rfl) (by rw [unhide HV, hf]; rfl), unhide B3⟩
  | true =>
    have hb := fl_le (n := a) (l := l) (g := g)
    obtain ⟨k, hk, hk2, _⟩ := fl_facts hf
    have HF := hide hf
    have h1 : 1 ≤ flN a l g := by omega
    clear hk hk2
    generalize flN a l g = F at *
    have hd1 : 0 ≤ (F - 1) / p := Int.ediv_nonneg (by omega) (by omega)
    have hd2 : (F - 1) / p ≤ F - 1 := Int.ediv_le_self _ (by omega)
    have hp0 : ¬ p = 0 := by omega
    clear hf
    by_cases h0 : 0 < (F - 1) / p
    · have h00 : ((F - 1) / p == 0) = false := by simp; omega
      go_wp2_with fail
      go_ret2
      exact ⟨ret_ib (by rw [unhide HN, unhide HF]; simp [h0]) (by rw [unhide HV, unhide HF]; simp [h0]), unhide B3⟩
    · have h00 : ((F - 1) / p == 0) = true := by simp; omega
      go_wp2_with fail
      go_ret2
      exact ⟨ret_ib (by rw [unhide HN, unhide HF]; simp; omega) (by rw [unhide HV, unhide HF]; simpa using h0), unhide B3⟩

end Go.Proofs.Ytnpohiceefkhdao
