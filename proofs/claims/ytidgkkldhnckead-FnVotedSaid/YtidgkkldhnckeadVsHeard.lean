/-
  What the model's l8Seen and l8Heard answer: whether a round can be seen; what is heard, sorted. Nothing that was there is written.
-/
import Derived.Test.YtidgkkldhnckeadVoOk
import Derived.Test.YtidgkkldhnckeadAppL
import Derived.Test.YtidgkkldhnckeadOnly
import Derived.Test.YtidgkkldhnckeadVtPure
import Derived.Deep.Cut
import Derived.Deep.CutRange
import Derived.Deep.RegionLaw
namespace Go.Proofs.Ytidgkkldhnckead
open Go.RowKit

/-- What lies at the head of a round. -/
structure Hea (w wr : World) (n h : Int) (a1 a2 : Option Addr) (L c1 l2 c2 : Nat) (g m c : Nat) (hs : List Int) : Prop where
  p : Blk wr w.heap.size [.int .i64 n, .int .i64 h, .slice a1 L c1, .slice a2 l2 c2]
  o : OwnI wr (w.heap.size + 1) (.slice (some ⟨g, 0, none⟩) m c) (srt hs)
  l : (srt hs).length = m
  b : Below w.heap.size w wr
theorem Hea.cap {w wr : World} {n h : Int} {a1 a2 : Option Addr} {L c1 l2 c2 g m c : Nat} {hs : List Int} (H : Hea w wr n h a1 a2 L c1 l2 c2 g m c hs) : m ≤ c ∧ w.heap.size < g ∧ g < wr.heap.size := by
  have l1 := H.o.lies g rfl
  rcases H.o.form with ⟨e, _⟩ | ⟨g', c', e, _, _, h1, _⟩
  · cases e
  · simp only [Value.slice.injEq] at e
    rw [H.l] at h1
    omega
theorem bel1d' {w : World} (n : Nat) (o : Obj) : Below w.heap.size w ((w.drewN n).alloc o) := (bel0d' n).trans ((bel1 (w := w.drewN n) o).mono (Nat.le_refl _))
theorem addr_add (g o j : Nat) : (⟨g, o, none⟩ : Addr).add j = ⟨g, o + j, none⟩ := by unfold Addr.add; split <;> simp_all

end Go.Proofs.Ytidgkkldhnckead
