/-
  The law FnRunways returns true at every list of bytes and writes nothing that was there: the walk. No condition.
-/
import Derived.Test.YtkebjipmbgjilabDrawRunner
import Derived.Test.YtkebjipmbgjilabDecImpl
import Derived.Test.YtkebjipmbgjilabDecSpec
import Derived.Test.YtkebjipmbgjilabRunFacts
namespace Go.Proofs.Ytkebjipmbgjilab
open Go.RowKit

set_option maxRecDepth 20000 in
set_option maxHeartbeats 8000000 in
theorem lawFnRunways_big (a : Option Addr) (len cap : Nat) (w : World) (h : (1048576 : Int) < len) :
    Calls Try.prog 3 #[.slice a len cap] w fun e w' => e = .returned (.bool true) ∧ Below w.heap.size w w' := by
  have hd : decide ((1048576 : Int) < len) = true := by simpa using h
  go_enter Try.func3, Try.ntmps3
  go_wp2_with fail
  refine (big_any a len cap _).mono ?_
  rintro e w' ⟨rfl, hw⟩
  subst w'
  rw [hd]
  go_wp2
  go_ret
  exact ⟨rfl, Below.refl _ _⟩

set_option maxRecDepth 20000 in
set_option maxHeartbeats 8000000 in
theorem lawFnRunways_small (a : Option Addr) (len cap : Nat) (w : World) (h : ¬ (1048576 : Int) < len) (hb : Bytes w a len) (hin : ∀ b off, a = some ⟨b, off, none⟩ → b < w.heap.size) :
    Calls Try.prog 3 #[.slice a len cap] w fun e w' => e = .returned (.bool true) ∧ Below w.heap.size w w' := by
  have hd0 : decide ((1048576 : Int) < len) = false := by simpa using h
  have HY := hide hb
  have HIN := hide hin
  have HL : Hid (len ≤ 1048576) := hide (by omega)
  clear hb hin h
  go_enter Try.func3, Try.ntmps3
  go_wp2_with fail
  refine (big_any a len cap _).mono ?_
  rintro e w' ⟨rfl, hw⟩
  subst w'
  rw [hd0]
  clear hd0
  go_wp2_with fail
  refine (drawRunner_any a len cap _ (unhide HY) (unhide HIN)).mono ?_
  rintro e w1 ⟨p, d, s, e, lift, rfl, hp, hd, hs, he, hl, b1⟩
  have b2 := b1.alloc (Nat.le_trans b1.size (Nat.le_refl _)) (Obj.cells #[.int .i64 p, .int .i64 d, .int .i64 s, .int .i64 e] 25)
  obtain ⟨V, hV⟩ : ∃ V, V = w1.alloc (Obj.cells #[.int .i64 p, .int .i64 d, .int .i64 s, .int .i64 e] 25) := ⟨_, rfl⟩
  have RV : Rn V w1.heap.size p d s e := by rw [hV]; exact Rn.new _ _ _ _ _
  rw [← hV] at b2
  have HBV := hide b2
  have HYV := hide ((unhide HY).below b2)
  have HV := hide hV
  have c0 := RV.c0
  have c1 := RV.c1
  have c2 := RV.c2
  have c3 := RV.c3
  have HRV := hide RV
  clear b1 b2 hV RV
  go_wp2_with fail
  rw [← unhide HV]
  clear HV
  refine (at_any a len cap 4 V (unhide HYV) (unhide HL) (by omega)).mono ?_
  rintro x w' ⟨x, rfl, hx, hw⟩
  subst w'
  have hway : 0 ≤ 20 * x ∧ 20 * x ≤ 5100 := by omega
  have HK : Hid (decOk p d s e lift (20 * x) = true) := hide (by simp [decOk, runB, inB]; omega)
  have HK' : Hid (decOk p d s e lift (20 * x + 500) = true) := hide (by simp [decOk, runB, inB]; omega)
  have LAW := hide (runways_law (unhide HK) (unhide HK') (by omega))
  clear HK HK'
  go_wp2_with fail
  refine (implDecide_any p d s e lift (20 * x) V).mono ?_
  rintro y w2 ⟨rfl, b2⟩
  have R2 := (unhide HRV).below b2
  have HB2 := hide ((unhide HBV).trans (b2.mono (unhide HBV).size))
  have c0 := R2.c0
  have c1 := R2.c1
  have c2 := R2.c2
  have c3 := R2.c3
  have HR2 := hide R2
  clear b2 R2
  go_wp2_with fail
  refine (implDecide_any p d s e lift (20 * x + 500) w2).mono ?_
  rintro y w3 ⟨rfl, b3⟩
  have R3 := (unhide HR2).below b3
  have HB3 := hide ((unhide HB2).trans (b3.mono (unhide HB2).size))
  have c0 := R3.c0
  have c1 := R3.c1
  have c2 := R3.c2
  have c3 := R3.c3
  have HR3 := hide R3
  clear b3 R3
  go_wp2_with fail
  refine (specDecide_any p d s e lift (20 * x) w3).mono ?_
  rintro y w4 ⟨rfl, b4⟩
  have R4 := (unhide HR3).below b4
  have HB4 := hide ((unhide HB3).trans (b4.mono (unhide HB3).size))
  have c0 := R4.c0
  have c1 := R4.c1
  have c2 := R4.c2
  have c3 := R4.c3
  have HR4 := hide R4
  clear b4 R4
  rcases unhide LAW with hno | ⟨lo, hi, lo', hi', h1, h2, hle1, hle2, hle3, ⟨hf, hfw⟩, hg, hgw⟩
  · rw [hno]
    generalize decR p d s e lift (20 * x + 500) = Q
    obtain ⟨q1, q2, q3⟩ := Q
    clear hno LAW
    go_wp2
    go_ret
    exact ⟨rfl, unhide HB4⟩
  · rw [h1, h2]
    have HF := hide hf
    have HG := hide hg
    have HFW := hide hfw
    have HGW := hide hgw
    clear LAW h1 h2 hf hg hfw hgw
    go_wp2_with fail
    refine (implRolls_any p d s e lo lift w4).mono ?_
    rintro y w5 ⟨rfl, b5⟩
    have R5 := (unhide HR4).below b5
    have HB5 := hide ((unhide HB4).trans (b5.mono (unhide HB4).size))
    have c0 := R5.c0
    have c1 := R5.c1
    have c2 := R5.c2
    have c3 := R5.c3
    clear b5 R5
    go_wp2_with fail
    refine (implStops_any p d s e hi w5).mono ?_
    rintro y w6 ⟨rfl, b6⟩
    have HB6 := hide ((unhide HB5).trans (b6.mono (unhide HB5).size))
    clear b6 c0 c1 c2 c3
    have hf := unhide HF
    have hg := unhide HG
    have hfw := unhide HFW
    have hgw := unhide HGW
    clear HF HG HFW HGW
    generalize rollR p d s e lo lift = A at *
    generalize stopR p d s e hi = B at *
    obtain ⟨A1, A2, A3⟩ := A
    obtain ⟨B1, B2⟩ := B
    simp only at hf hg hfw hgw ⊢
    subst hf hg
    go_wp2
    go_ret
    exact ⟨rfl, unhide HB6⟩

theorem lawFnRunways (a : Option Addr) (len cap : Nat) (w : World) (hb : Bytes w a len) (hin : ∀ b off, a = some ⟨b, off, none⟩ → b < w.heap.size) :
    Calls Try.prog 3 #[.slice a len cap] w fun e w' => e = .returned (.bool true) ∧ Below w.heap.size w w' := by
  by_cases h : (1048576 : Int) < len
  · exact lawFnRunways_big a len cap w h
  · exact lawFnRunways_small a len cap w h hb hin

end Go.Proofs.Ytkebjipmbgjilab
