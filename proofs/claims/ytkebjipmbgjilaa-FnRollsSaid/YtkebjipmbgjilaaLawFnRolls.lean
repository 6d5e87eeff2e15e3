/-
  The law FnRolls returns true at every list of bytes and writes nothing that was there: the walk. No condition.
-/
import Derived.Test.YtkebjipmbgjilaaDrawRunner
import Derived.Test.YtkebjipmbgjilaaStopImpl
import Derived.Test.YtkebjipmbgjilaaRollFacts
import Derived.Test.YtkebjipmbgjilaaBel
namespace Go.Proofs.Ytkebjipmbgjilaa
open Go.RowKit

/-- The byte that the law's at tells is one number in every world in which the bytes are as they were. -/
theorem at_fix (a : Option Addr) (len cap : Nat) (i : Nat) (w : World) (hb : Bytes w a len) (hl : len ≤ 1048576) (hi : i ≤ 1000) :
    ∃ x : Int, (0 ≤ x ∧ x ≤ 255) ∧ ∀ W : World, Below w.heap.size w W → Calls Try.prog 15 #[.slice a len cap, .int .i64 i] W fun e w' => e = .returned (.int .i64 x) ∧ w' = W := by
  by_cases hlt : i < len
  · have hi1 : (i : Int) < (len : Int) := by omega
    have hi0 : (0 : Int) ≤ (i : Int) := by omega
    obtain ⟨b, off, rfl, x, hc, hx1, hx2⟩ := hb.cells i hlt
    refine ⟨x, ⟨hx1, hx2⟩, fun W hW => ?_⟩
    have hc := (hW.cell (block_lt_of_cell hc)).trans hc
    clear hb hW
    go_enter Try.func15, Try.ntmps15
    go_wp2
    go_ret
    exact ⟨rfl, rfl⟩
  · have hi1 : ¬ (i : Int) < (len : Int) := by omega
    refine ⟨((i : Int) * 7 + len) % 256, ⟨Int.emod_nonneg _ (by omega), by have := Int.emod_lt_of_pos ((i : Int) * 7 + len) (show (0 : Int) < 256 by omega); omega⟩, fun W _ => ?_⟩
    clear hb
    go_enter Try.func15, Try.ntmps15
    go_wp2
    go_ret
    exact ⟨rfl, rfl⟩

set_option maxRecDepth 20000 in
set_option maxHeartbeats 8000000 in
theorem lawFnRolls_big (a : Option Addr) (len cap : Nat) (w : World) (h : (1048576 : Int) < len) :
    Calls Try.prog 8 #[.slice a len cap] w fun e w' => e = .returned (.bool true) ∧ Below w.heap.size w w' := by
  have hd : decide ((1048576 : Int) < len) = true := by simpa using h
  go_enter Try.func8, Try.ntmps8
  go_wp2_with fail
  refine (big_any a len cap _).mono ?_
  rintro e w' ⟨rfl, hw⟩
  subst w'
  rw [hd]
  go_wp2
  go_ret
  exact ⟨rfl, Below.refl _ _⟩

set_option maxRecDepth 20000 in
set_option maxHeartbeats 8000000 in
theorem lawFnRolls_small (a : Option Addr) (len cap : Nat) (w : World) (h : ¬ (1048576 : Int) < len) (hb : Bytes w a len) (hin : ∀ b off, a = some ⟨b, off, none⟩ → b < w.heap.size) :
    Calls Try.prog 8 #[.slice a len cap] w fun e w' => e = .returned (.bool true) ∧ Below w.heap.size w w' := by
  have hd0 : decide ((1048576 : Int) < len) = false := by simpa using h
  have HY := hide hb
  have HIN := hide hin
  have HL : Hid (len ≤ 1048576) := hide (by omega)
  clear hb hin h
  go_enter Try.func8, Try.ntmps8
  go_wp2_with fail
  refine (big_any a len cap _).mono ?_
  rintro e w' ⟨rfl, hw⟩
  subst w'
  rw [hd0]
  clear hd0
  go_wp2_with fail
  refine (drawRunner_any a len cap _ (unhide HY) (unhide HIN)).mono ?_
  rintro e w1 ⟨p, d, s, e, lift, rfl, hp, hd, hs, he, hl, b1⟩
  have b2 := b1.alloc (Nat.le_trans b1.size (Nat.le_refl _)) (Obj.cells #[.int .i64 p, .int .i64 d, .int .i64 s, .int .i64 e] 75)
  obtain ⟨V, hV⟩ : ∃ V, V = w1.alloc (Obj.cells #[.int .i64 p, .int .i64 d, .int .i64 s, .int .i64 e] 75) := ⟨_, rfl⟩
  have RV : Rn V w1.heap.size p d s e := by rw [hV]; exact Rn.new _ _ _ _ _
  rw [← hV] at b2
  have HBV := hide b2
  have HYV := hide ((unhide HY).below b2)
  have HV := hide hV
  have c0 := RV.c0
  have c1 := RV.c1
  have c2 := RV.c2
  have c3 := RV.c3
  have HRV := hide RV
  clear b1 b2 hV RV
  go_wp2_with fail
  rw [← unhide HV]
  clear HV
  refine (at_any a len cap 2 V (unhide HYV) (unhide HL) (by omega)).mono ?_
  rintro x w' ⟨x, rfl, hx, hw⟩
  subst w'
  have hv0 : 0 ≤ x % (lift + 1) := Int.emod_nonneg _ (by omega)
  have hv1 : x % (lift + 1) < lift + 1 := Int.emod_lt_of_pos _ (by omega)
  go_wp2_with fail
  generalize x % (lift + 1) = v at *
  refine (implRolls_any p d s e v lift V).mono ?_
  rintro y w2 ⟨rfl, b2⟩
  have R2 := (unhide HRV).below b2
  have HB2 := hide ((unhide HBV).trans (b2.mono (unhide HBV).size))
  have Y2 := (unhide HYV).below b2
  obtain ⟨z, hz, hat⟩ := at_fix a len cap 3 w2 Y2 (unhide HL) (by omega)
  have hm : 0 ≤ z % 20 ∧ z % 20 < 20 := by omega
  obtain ⟨u, hu⟩ : ∃ u, z % 20 = u := ⟨_, rfl⟩
  obtain ⟨ι, f, _, hbf, hall⟩ := belClass w2
  have c0 : ∀ x, (f x).cell? ⟨w1.heap.size, 0, none⟩ = some (.int .i64 p) := fun x => (R2.below (hbf x)).c0
  have c1 : ∀ x, (f x).cell? ⟨w1.heap.size, 1, none⟩ = some (.int .i64 d) := fun x => (R2.below (hbf x)).c1
  have c2 : ∀ x, (f x).cell? ⟨w1.heap.size, 2, none⟩ = some (.int .i64 s) := fun x => (R2.below (hbf x)).c2
  have c3 : ∀ x, (f x).cell? ⟨w1.heap.size, 3, none⟩ = some (.int .i64 e) := fun x => (R2.below (hbf x)).c3
  have HAT := hide fun x => hat (f x) (hbf x)
  have HF := hide hbf
  have HA := hide hall
  have HR2 := hide R2
  have LAW := hide (rolls_law (v := v) (v' := v + 1 + z % 20) hp hd hs he hl (by omega) (by omega))
  have hbz : IntKind.i64.wrap (v + 1) = v + 1 := by rw [IntKind.wrap_i64]; omega
  have hbz2 : IntKind.i64.wrap (v + 1 + z % 20) = v + 1 + z % 20 := by rw [IntKind.wrap_i64]; omega
  clear b2 Y2 hat hbf hall R2 hu u
  go_wp2_with fail
  refine wp_region_bel (unhide HA) (by kernel_rfl) (by kernel_rfl) ?_
  repeat (go_big_quiet_step (first
      | (go_at_call 15; exact belS (unhide HAT _))
      | (go_at_call 32; exact belQ (unhide HF) (unhide HA) (implRolls_any p d s e (v + 1 + z % 20) lift _))))
  refine wpQuiet_nil ?_
  rintro _ ⟨x3, rfl⟩
  have HB3 := hide ((unhide HB2).trans ((unhide HF x3).mono (unhide HB2).size))
  have R3 := (unhide HR2).below (unhide HF x3)
  obtain ⟨W3, hW3⟩ : ∃ W3, f x3 = W3 := ⟨_, rfl⟩
  rw [hW3] at HB3 R3 ⊢
  have c0 := R3.c0
  have c1 := R3.c1
  have c2 := R3.c2
  have c3 := R3.c3
  have HR3 := hide R3
  obtain ⟨l0, ⟨l1, l2⟩, l3, l4, l5, ⟨l6, l7⟩, l8, l9⟩ := unhide LAW
  have L0 := hide l0
  have L6 := hide l6
  have L7 := hide l7
  have L8 := hide l8
  have L9 := hide l9
  clear hW3 R3 HF HA HAT HR2 LAW l0 l6 l7 l8 l9 hbz hbz2
  generalize rollR p d s e v lift = A at *
  generalize rollR p d s e (v + 1 + z % 20) lift = B at *
  obtain ⟨A1, A2, A3⟩ := A
  obtain ⟨B1, B2, B3⟩ := B
  simp only at l1 l2 l3 l4 l5 ⊢
  subst l1 l2
  have n1 : ¬ A2 < B2 := by omega
  have n2 : ¬ A1 < lift := by omega
  have n3 : ¬ B1 < lift := by omega
  go_wp2_with fail
  refine (implRunnerOk_is p d s e _ (unhide L0)).mono ?_
  rintro y w4 ⟨rfl, b4⟩
  have HB4 := hide ((unhide HB3).trans (b4.mono (unhide HB3).size))
  have R4 := (unhide HR3).below b4
  have c0 := R4.c0
  have c1 := R4.c1
  have c2 := R4.c2
  have c3 := R4.c3
  have HR4 := hide R4
  clear b4 R4
  go_wp2_with fail
  refine (implStops_any p d s e v _).mono ?_
  rintro y w5 ⟨rfl, b5⟩
  have HB5 := hide ((unhide HB4).trans (b5.mono (unhide HB4).size))
  have R5 := (unhide HR4).below b5
  have c0 := R5.c0
  have c1 := R5.c1
  have c2 := R5.c2
  have c3 := R5.c3
  clear b5 R5
  go_wp2_with fail
  refine (implStops_any p d s e (v + 1) _).mono ?_
  rintro y w6 ⟨rfl, b6⟩
  have HB6 := hide ((unhide HB5).trans (b6.mono (unhide HB5).size))
  clear b6 c0 c1 c2 c3
  have l6 := unhide L6
  have l7 := unhide L7
  have l8 := unhide L8
  have l9 := unhide L9
  clear L6 L7 L8 L9
  generalize stopR p d s e v = S at *
  generalize stopR p d s e (v + 1) = T at *
  obtain ⟨S1, S2⟩ := S
  obtain ⟨T1, T2⟩ := T
  simp only at l6 l7 l8 l9 ⊢
  subst l6 l7
  go_wp2
  go_ret
  exact ⟨rfl, unhide HB6⟩

theorem lawFnRolls (a : Option Addr) (len cap : Nat) (w : World) (hb : Bytes w a len) (hin : ∀ b off, a = some ⟨b, off, none⟩ → b < w.heap.size) :
    Calls Try.prog 8 #[.slice a len cap] w fun e w' => e = .returned (.bool true) ∧ Below w.heap.size w w' := by
  by_cases h : (1048576 : Int) < len
  · exact lawFnRolls_big a len cap w h
  · exact lawFnRolls_small a len cap w h hb hin

end Go.Proofs.Ytkebjipmbgjilaa
