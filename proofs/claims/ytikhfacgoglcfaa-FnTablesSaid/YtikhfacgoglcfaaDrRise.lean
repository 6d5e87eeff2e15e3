/-
  What the model's l1DrawRise answers: a rising list that it has made. At every cursor; nothing that was there is written but the cursor.
-/
import Derived.Test.YtikhfacgoglcfaaDraw
import Derived.Test.YtikhfacgoglcfaaAppI
namespace Go.Proofs.Ytikhfacgoglcfaa
open Go.RowKit

/-- A rising list from low on, by steps of at most step; X is what comes next. -/
structure Rise (low step : Int) (k : Nat) (zs : List Int) (X : Int) : Prop where
  len : zs.length = k
  lo : ∀ i, i < k → low + i ≤ nth zs i ∧ nth zs i ≤ low + step * i
  up : ∀ i, i + 1 < k → nth zs i < nth zs (i + 1)
  x0 : low + k ≤ X ∧ X ≤ low + step * k
  last : ∀ i, i + 1 = k → nth zs i < X
  first : 0 < k → nth zs 0 = low
theorem rise_none (low step : Int) : Rise low step 0 [] low :=
  ⟨rfl, fun i hi => by omega, fun i hi => by omega, by simp, fun i hi => by omega, fun h => by omega⟩
theorem rise_more {low step : Int} {k : Nat} {zs : List Int} {X y : Int} (h : Rise low step k zs X) (h0 : k = 0 → X = low) (hy : 0 ≤ y ∧ y < step) : Rise low step (k + 1) (zs ++ [X]) (X + 1 + y) := by
  have hl := h.len
  have e1 : ∀ i, i < k → nth (zs ++ [X]) i = nth zs i := fun i hi => by unfold nth; rw [List.getElem?_append_left (by omega)]
  have e2 : nth (zs ++ [X]) k = X := by unfold nth; rw [List.getElem?_append_right (by omega), hl]; simp
  have em : step * ((k + 1 : Nat) : Int) = step * (k : Int) + step := by rw [Int.natCast_add, Int.mul_add]; simp
  have hx := h.x0
  refine ⟨by simp [hl], fun i hi => ?_, fun i hi => ?_, by omega, fun i hi => ?_, fun _ => ?_⟩
  · by_cases e : i < k
    · rw [e1 i e]; exact h.lo i e
    · obtain rfl : i = k := by omega
      rw [e2]; exact h.x0
  · by_cases e : i + 1 < k
    · rw [e1 i (by omega), e1 (i + 1) e]; exact h.up i e
    · have hk : i + 1 = k := by omega
      rw [e1 i (by omega), hk, e2]; exact h.last i hk
  · obtain rfl : i = k := by omega
    rw [e2]; omega
  · by_cases e : 0 < k
    · rw [e1 0 e]; exact h.first e
    · obtain rfl : k = 0 := by omega
      rw [e2]; exact h0 rfl
/-- What a drawn rising list is told as. -/
def RiseDrawn (w : World) (C : Nat) (a : Option Addr) (len cap : Nat) (W : World) (n : Nat) (low step : Int) (e : Ending) (w' : World) : Prop := ∃ (g c : Nat) (zs : List Int) (X : Int), e = .returned (.slice (some ⟨g, 0, none⟩) n c) ∧ OwnI w' W.heap.size (.slice (some ⟨g, 0, none⟩) n c) zs ∧ Rise low step n zs X ∧ Dr w C a len cap w' ∧ Kp C W.heap.size W w'

set_option maxRecDepth 20000 in
set_option maxHeartbeats 3000000 in
theorem drRise {w : World} {C : Nat} {a : Option Addr} {len cap : Nat} (n : Nat) (low step : Int) (W : World) (h : Dr w C a len cap W) (hin : ∀ b off, a = some ⟨b, off, none⟩ → b < w.heap.size) (hn : n ≤ 100) (hs : 1 ≤ step ∧ step ≤ 1000) (hlow : -10000 ≤ low ∧ low ≤ 10000) :
    Calls Try.prog 22 #[.pointer (some ⟨C, 0, none⟩), .int .i64 (n : Int), .int .i64 low, .int .i64 step] W fun e w' => RiseDrawn w C a len cap W n low step e w' := by
  obtain ⟨V, hV⟩ : ∃ V, V = W.alloc (Obj.cells #[] 3) := ⟨_, rfl⟩
  have bV : Below W.heap.size W V := by rw [hV]; exact bel1 _
  have DD : Hid (Dr w C a len cap V) := hide (h.below bV)
  have OO : Hid (OwnI V W.heap.size (.slice (some ⟨W.heap.size, 0, none⟩) 0 0) []) := hide (by rw [hV]; exact ownI_none (Nat.le_refl _))
  have KK : Hid (Kp C W.heap.size W V) := hide (Kp.of_below bV (Nat.le_refl _))
  have hCW := h.lt
  have HIN := hide hin
  have HV := hide hV
  have R0 := hide (rise_none low step)
  have hst : ∀ k : Nat, k ≤ 100 → 0 ≤ step * (k : Int) ∧ step * (k : Int) ≤ 100000 := fun k hk => ⟨Int.mul_nonneg (by omega) (by omega), by
    have h1 : step * (k : Int) ≤ 1000 * (k : Int) := Int.mul_le_mul_of_nonneg_right hs.2 (by omega)
    omega⟩
  have HST := hide hst
  clear h hV bV hin hst
  go_enter Try.func22, Try.ntmps22
  go_wp2_with fail
  rw [← unhide HV]
  clear HV
  go_loopw [9, 10, 11] (fun o x i wr => ∃ (k g c : Nat) (zs : List Int) (X : Int), o = .slice (some ⟨g, 0, none⟩) k c ∧ x = .int .i64 X ∧ i = .int .i64 (k : Int) ∧ k ≤ n ∧ (k = 0 → X = low) ∧ Hid (Rise low step k zs X) ∧ Hid (OwnI wr W.heap.size (.slice (some ⟨g, 0, none⟩) k c) zs) ∧ Hid (Dr w C a len cap wr) ∧ Hid (Kp C W.heap.size W wr)) (fun _ _ i _ => n - (intOf i).toNat)
  case atStart => exact ⟨0, _, 0, [], low, rfl, rfl, rfl, Nat.zero_le _, fun _ => rfl, R0, OO, DD, KK⟩
  case round =>
    clear R0 OO DD KK
    obtain ⟨k, g, c, zs, X, rfl, rfl, rfl, hk, hX0, RR, OO, DD, KK⟩ := hrel
    by_cases hlt : k < n
    · have hlt2 : (k : Int) < (n : Int) := by omega
      have bX : -20000 ≤ X ∧ X ≤ 200000 := by
        have h1 := (unhide RR).x0
        have h2 := (unhide HST) k (by omega)
        omega
      have HL : Hid (zs.length = k) := hide (unhide RR).len
      have sW : W.heap.size ≤ wr.heap.size := (unhide KK).size
      have HX0 := hide hX0
      clear hX0
      go_wp2_with (first
        | (at_builtin; refine wpList_app_int rfl _ _ rfl (n := k) X (unhide OO) (unhide HL) rfl rfl rfl sW (by omega) (by omega) ?_; intro g9 c9 w9 o9 gr9; have D9 : Hid (Dr w C a len cap w9) := hide ((unhide DD).own gr9 (fun q hq => by have := ((unhide OO).lies q hq).1; omega) (unhide HIN)); have K9 : Hid (Kp C W.heap.size W w9) := hide ⟨gr9.os.trans (unhide KK).os, gr9.tape.trans (unhide KK).tape, gr9.output.trans (unhide KK).output, Nat.le_trans (unhide KK).size gr9.size, fun q hq hne => (gr9.block q (by omega) (fun e => by have := ((unhide OO).lies q e.symm).1; omega)).trans ((unhide KK).block q hq hne)⟩; have O9 := hide o9; clear o9 gr9))
      refine (drBelow step _ (unhide D9) (by omega)).mono ?_
      rintro e w2 ⟨y, rfl, hy, d2, g2⟩
      have D2 := hide d2
      have O2 := hide ((unhide O9).far g2 (fun q hq e => by have := Option.some.inj e; have := ((unhide O9).lies q hq).1; omega))
      have K2 : Hid (Kp C W.heap.size W w2) := hide ((unhide K9).trans (Kp.of_row g2 (unhide K9).size))
      have R2 := hide (rise_more (unhide RR) (unhide HX0) hy)
      clear d2 g2 RR OO DD KK D9 O9 K9
      go_wp2_with fail
      go_roundw
      case rel => exact ⟨k + 1, g9, c9, zs ++ [X], X + 1 + y, rfl, rfl, by go_num, by omega, fun h => by omega, R2, O2, D2, K2⟩
      case measure => simp [intOf]; omega
    · obtain rfl : k = n := by omega
      have hlt2 : ¬ (k : Int) < (k : Int) := by omega
      go_wp2_with fail
      go_ret
      exact ⟨g, c, zs, X, rfl, unhide OO, unhide RR, unhide DD, unhide KK⟩

end Go.Proofs.Ytikhfacgoglcfaa
