/-
  What Load5 answers in the specification and in the program: the plain number and flag. No condition; nothing that was there is written.
-/
import Derived.Test.YtdamnfiaciacmaaStepPure
import Derived.Test.YtdamnfiaciacmaaFinImpl
namespace Go.Proofs.Ytdamnfiaciacmaa
open Go.RowKit
attribute [local go_sem] run_store_float

/-- The quotient. -/
def loadX (m : Mo) (f : Fo) : Nat := fl .quo .f64 (fl .mul .f64 f.a2 (fl .mul .f64 m.a0 m.a0)) f.a4
/-- Whether it is told. -/
def loadB (m : Mo) (f : Fo) : Bool := (FloatKind.f64.format.order f.a4 0 == some .gt) && finB (loadX m f)
def loadV (m : Mo) (f : Fo) : Nat := if loadB m f = true then loadX m f else 0
theorem fin_is {x y : Nat} (h : Alike .f64 x y) (hf : finB y = true) : x = y := by
  rcases h with h | ⟨_, b⟩
  · exact h
  · unfold finB at hf; rw [b] at hf; cases hf

set_option maxRecDepth 20000 in
set_option maxHeartbeats 2000000 in
theorem implLoad5_any (a0 a1 a2 a3 f0 f1 f2 f3 f4 : Nat) (w : World) :
    Calls Try.prog 11 #[.agg #[.float .f64 a0, .float .f64 a1, .float .f64 a2, .float .f64 a3], .agg #[.float .f64 f0, .float .f64 f1, .float .f64 f2, .float .f64 f3, .float .f64 f4]] w fun e w' => e = .returned (.tuple #[.float .f64 (loadV ⟨a0, a1, a2, a3⟩ ⟨f0, f1, f2, f3, f4⟩), .bool (loadB ⟨a0, a1, a2, a3⟩ ⟨f0, f1, f2, f3, f4⟩)]) ∧ Below w.heap.size w w' := by
  have r := fun x => Alike.refl .f64 x
  have R := hide r
  clear r
  cases hw : (FloatKind.f64.format.order f4 0 == some .gt) with
  | false =>
    have hb : loadB ⟨a0, a1, a2, a3⟩ ⟨f0, f1, f2, f3, f4⟩ = false := by unfold loadB; show ((FloatKind.f64.format.order f4 0 == some .gt) && _) = false; rw [hw]; rfl
    have HB : Hid (loadB ⟨a0, a1, a2, a3⟩ ⟨f0, f1, f2, f3, f4⟩ = false ∧ loadV ⟨a0, a1, a2, a3⟩ ⟨f0, f1, f2, f3, f4⟩ = 0) := hide ⟨hb, by unfold loadV; rw [hb]; rfl⟩
    clear hb
    go_enter Try.func11, Try.ntmps11
    go_wp2_with (with_reducible show wpList _ _ _ (⟨_, .binOp _ _ _ _ _, _, _, _, none⟩ :: _) _ _; refine at_flop (by decide) .f64 _ _ rfl rfl ?_; intro z1 n1 h1)
    go_ret2
    exact ⟨by rw [(unhide HB).1, (unhide HB).2]; rfl, by simpa using bel2d _ _ _⟩
  | true =>
    cases hf : finB (loadX ⟨a0, a1, a2, a3⟩ ⟨f0, f1, f2, f3, f4⟩) with
    | false =>
      have hb : loadB ⟨a0, a1, a2, a3⟩ ⟨f0, f1, f2, f3, f4⟩ = false := by unfold loadB; rw [hf, Bool.and_false]
      have HB : Hid (loadB ⟨a0, a1, a2, a3⟩ ⟨f0, f1, f2, f3, f4⟩ = false ∧ loadV ⟨a0, a1, a2, a3⟩ ⟨f0, f1, f2, f3, f4⟩ = 0) := hide ⟨hb, by unfold loadV; rw [hb]; rfl⟩
      have HF := hide hf
      clear hb hf
      go_enter Try.func11, Try.ntmps11
      go_wp2_with (with_reducible show wpList _ _ _ (⟨_, .binOp _ _ _ _ _, _, _, _, none⟩ :: _) _ _; refine at_flop (by decide) .f64 _ _ rfl rfl ?_; intro z1 n1 h1)
      have hz : Alike .f64 z1 (loadX ⟨a0, a1, a2, a3⟩ ⟨f0, f1, f2, f3, f4⟩) := h1.trans (Alike.fl (Alike.trans (by assumption) (Alike.fl (unhide R _) (by assumption))) (unhide R _))
      refine (finite_any _ _).mono ?_
      rw [show finB z1 = false from hz.fin.trans (unhide HF)]
      rintro e w' ⟨rfl, rfl⟩
      go_wp2_with fail
      go_ret2
      exact ⟨by rw [(unhide HB).1, (unhide HB).2]; rfl, by simpa using bel2d _ _ _⟩
    | true =>
      have hb : loadB ⟨a0, a1, a2, a3⟩ ⟨f0, f1, f2, f3, f4⟩ = true := by unfold loadB; show ((FloatKind.f64.format.order f4 0 == some .gt) && _) = true; rw [hw, hf]; rfl
      have HB : Hid (loadB ⟨a0, a1, a2, a3⟩ ⟨f0, f1, f2, f3, f4⟩ = true ∧ loadV ⟨a0, a1, a2, a3⟩ ⟨f0, f1, f2, f3, f4⟩ = loadX ⟨a0, a1, a2, a3⟩ ⟨f0, f1, f2, f3, f4⟩) := hide ⟨hb, by unfold loadV; rw [hb]; rfl⟩
      have HF := hide hf
      clear hb hf
      go_enter Try.func11, Try.ntmps11
      go_wp2_with (with_reducible show wpList _ _ _ (⟨_, .binOp _ _ _ _ _, _, _, _, none⟩ :: _) _ _; refine at_flop (by decide) .f64 _ _ rfl rfl ?_; intro z1 n1 h1)
      have hz : Alike .f64 z1 (loadX ⟨a0, a1, a2, a3⟩ ⟨f0, f1, f2, f3, f4⟩) := h1.trans (Alike.fl (Alike.trans (by assumption) (Alike.fl (unhide R _) (by assumption))) (unhide R _))
      refine (finite_any _ _).mono ?_
      rw [show finB z1 = true from hz.fin.trans (unhide HF)]
      rintro e w' ⟨rfl, rfl⟩
      have HZ : Hid (z1 = loadX ⟨a0, a1, a2, a3⟩ ⟨f0, f1, f2, f3, f4⟩) := hide (fin_is hz (unhide HF))
      clear hz
      go_wp2_with fail
      go_ret2
      exact ⟨by rw [(unhide HB).1, (unhide HB).2, ← unhide HZ]; rfl, by simpa using bel2d _ _ _⟩

end Go.Proofs.Ytdamnfiaciacmaa
