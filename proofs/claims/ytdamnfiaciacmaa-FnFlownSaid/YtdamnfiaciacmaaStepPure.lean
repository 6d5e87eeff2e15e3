/-
  One step of a flight, in plain numbers. No program here.
-/
import Derived.Test.YtdamnfiaciacmaaToMo
import Derived.Test.YtdamnfiaciacmaaToFo
namespace Go.Proofs.Ytdamnfiaciacmaa
open Go

/-- The next motion. -/
def stepM (m : Mo) (f : Fo) (el dt : Nat) : Mo :=
  ⟨fl .add .f64 m.a0 (fl .mul .f64 (fl .sub .f64 (fl .sub .f64 f.a0 (fl .mul .f64 f.a1 (fl .mul .f64 m.a0 m.a0))) (fl .mul .f64 f.a4 m.a2)) dt),
   fl .add .f64 m.a1 (fl .mul .f64 (fl .mul .f64 m.a0 m.a2) dt),
   fl .add .f64 m.a2 (fl .mul .f64 m.a3 dt),
   fl .add .f64 m.a3 (fl .mul .f64 (fl .sub .f64 el (fl .mul .f64 f.a3 m.a3)) dt)⟩

theorem stepM_alike {m n : Mo} (h : moAlike m n) (f : Fo) (el dt : Nat) : moAlike (stepM m f el dt) (stepM n f el dt) := by
  obtain ⟨h0, h1, h2, h3⟩ := h
  have r := fun x => Alike.refl .f64 x
  exact ⟨h0.fl ((((r _).fl ((r _).fl (h0.fl h0))).fl ((r _).fl h2)).fl (r _)), h1.fl ((h0.fl h2).fl (r _)), h2.fl (h3.fl (r _)), h3.fl (((r _).fl ((r _).fl h3)).fl (r _))⟩

end Go.Proofs.Ytdamnfiaciacmaa
