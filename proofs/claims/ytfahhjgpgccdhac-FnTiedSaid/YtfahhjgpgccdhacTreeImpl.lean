/-
  The program's buses that point towards the least one of their island: the first of an island, and two islands joined. Where the pointers are so; nothing else is written.
-/
import Derived.Test.YtfahhjgpgccdhacSmall
import Derived.Test.YtfahhjgpgccdhacTreePure
import Derived.Test.YtfahhjgpgccdhacOwn2
namespace Go.Proofs.Ytfahhjgpgccdhac
open Go.RowKit

/-- The buses of a net in block g. -/
structure Trees (w : World) (g N : Nat) (par : Nat → Nat) : Prop where
  p : ∀ i, i < N → w.cell? ⟨g, i * 2, none⟩ = some (.int .i64 (i : Nat))
  q : ∀ i, i < N → w.cell? ⟨g, i * 2 + 1, none⟩ = some (.pointer (some ⟨g, par i * 2, none⟩))
  f : ∀ i, i < N * 2 → w.frozen? ⟨g, i, none⟩ = false
  le : ∀ i, i < N → par i ≤ i
theorem Trees.drewN {w : World} {g N : Nat} {par : Nat → Nat} (h : Trees w g N par) (n : Nat) : Trees (w.drewN n) g N par := ⟨h.p, h.q, h.f, h.le⟩
theorem Trees.below {w w' : World} {g N : Nat} {par : Nat → Nat} (h : Trees w g N par) (k : Below w.heap.size w w') : Trees w' g N par := by
  refine ⟨fun i hi => (k.cell (block_lt_of_cell (h.p i hi))).trans (h.p i hi), fun i hi => (k.cell (block_lt_of_cell (h.q i hi))).trans (h.q i hi), fun i hi => ?_, h.le⟩
  have hl : g < w.heap.size := block_lt_of_cell (h.p (i / 2) (by omega))
  exact (k.frozen (p := ⟨g, i, none⟩) hl).trans (h.f i hi)
theorem Trees.other {w : World} {g N : Nat} {par : Nat → Nat} (h : Trees w g N par) {p : Addr} (hp : p.block ≠ g) (v : Value) : Trees (w.setCell p v) g N par :=
  ⟨fun i hi => (World.cell?_setCell_other w _ _ _ (by intro e; rw [e] at hp; exact hp rfl)).trans (h.p i hi), fun i hi => (World.cell?_setCell_other w _ _ _ (by intro e; rw [e] at hp; exact hp rfl)).trans (h.q i hi), fun i hi => by simpa using h.f i hi, h.le⟩
theorem Trees.set {w : World} {g N : Nat} {par : Nat → Nat} (h : Trees w g N par) {r t : Nat} (hr : r < N) (htr : t ≤ r) : Trees (w.setCell ⟨g, r * 2 + 1, none⟩ (.pointer (some ⟨g, t * 2, none⟩))) g N (pointTo par r t) := by
  refine ⟨fun i hi => ?_, fun i hi => ?_, fun i hi => by simpa using h.f i hi, fun i hi => ?_⟩
  · exact (World.cell?_setCell_other w _ _ _ (by intro e; simp only [Addr.mk.injEq] at e; omega)).trans (h.p i hi)
  · by_cases e : i = r
    · subst e
      have : pointTo par i t i = t := by simp [pointTo]
      rw [this]
      exact World.cell?_setCell_same _ _ _ (h.q i hi)
    · have : pointTo par r t i = par i := by simp [pointTo, e]
      rw [this]
      exact (World.cell?_setCell_other w _ _ _ (by intro e; simp only [Addr.mk.injEq] at e; omega)).trans (h.q i hi)
  · unfold pointTo
    split
    · omega
    · exact h.le i hi

set_option maxHeartbeats 1000000 in
theorem first_any (g N : Nat) (par : Nat → Nat) (i : Nat) (w : World) (h : Trees w g N par) (hi : i < N) :
    Calls Try.prog 81 #[.pointer (some ⟨g, i * 2, none⟩)] w fun e w' => e = .returned (.pointer (some ⟨g, rootOf par i * 2, none⟩)) ∧ ∃ n, w' = w.drewN n := by
  have H := hide h
  clear h
  go_enter Try.func81, Try.ntmps81
  go_wp2_with fail
  go_loopw [0] (fun b wr => ∃ j m : Nat, b = .pointer (some ⟨g, j * 2, none⟩) ∧ j < N ∧ Hid (rootOf par j = rootOf par i) ∧ wr = w.drewN m) (fun b _ => match b with | .pointer (some a) => a.off | _ => 0)
  case atStart => exact ⟨i, 0, rfl, hi, hide rfl, rfl⟩
  case round =>
    obtain ⟨j, m, rfl, hj, HJ, hwr⟩ := hrel
    subst wr
    obtain ⟨P, hP⟩ : ∃ P, par j = P := ⟨_, rfl⟩
    have hle := (unhide H).le j hj
    rw [hP] at hle
    have e0 := (unhide H).p j hj
    have e1 := (unhide H).q j hj
    rw [hP] at e1
    have e2 := (unhide H).p P (by omega)
    have HP := hide hP
    clear hP
    by_cases hlt : P < j
    · have hne : ¬ (P : Int) = (j : Int) := by omega
      have HR : Hid (rootOf par P = rootOf par i) := hide (by rw [← unhide HJ, rootOf_go (i := j) (by rw [unhide HP]; exact hlt), unhide HP])
      go_wp2_with fail
      go_quiet (fail)
      go_wp2_with fail
      go_roundw
      case rel => exact ⟨P, _, rfl, by omega, HR, rfl⟩
      case measure => simp; omega
    · have hPj : P = j := by omega
      rw [hPj] at e1 e2
      have HR : Hid (j = rootOf par i) := hide (by rw [← unhide HJ, rootOf_stop (by rw [unhide HP]; exact hlt)])
      clear hlt hle HP hPj
      go_wp2_with fail
      go_quiet (fail)
      go_wp2_with fail
      go_ret
      exact ⟨by rw [unhide HR]; rfl, dn2 _ _ _⟩

set_option maxHeartbeats 1000000 in
theorem join_any (g N : Nat) (par : Nat → Nat) (a b : Nat) (w : World) (h : Trees w g N par) (ha : a < N) (hb : b < N) :
    Calls Try.prog 80 #[.pointer (some ⟨g, a * 2, none⟩), .pointer (some ⟨g, b * 2, none⟩)] w fun e w' => e = .returned (.tuple #[]) ∧ Trees w' g N (joinP par a b) ∧ w.grownBy w' (some g) := by
  have H := hide h
  have e0 := h.p a ha
  have e1 := h.p b hb
  have q0 := h.q a ha
  have q1 := h.q b hb
  have z0 := h.f (a * 2 + 1) (by omega)
  have z1 := h.f (b * 2 + 1) (by omega)
  clear h
  by_cases hlt : a < b
  · have hlt' : (a : Int) < (b : Int) := by omega
    have HT : Hid (∀ m, Trees ((w.drewN m).setCell ⟨g, b * 2 + 1, none⟩ (.pointer (some ⟨g, a * 2, none⟩))) g N (joinP par a b)) := hide fun m => by
      unfold joinP; rw [if_pos hlt]; exact ((unhide H).drewN m).set hb (by omega)
    have HG : Hid (∀ m, w.grownBy ((w.drewN m).setCell ⟨g, b * 2 + 1, none⟩ (.pointer (some ⟨g, a * 2, none⟩))) (some g)) := hide fun m => grown_set (grown_drewN (grown_refl w (some g)) m) _ _
    go_enter Try.func80, Try.ntmps80
    go_wp2_with fail
    go_quiet (fail)
    go_wp2_with fail
    refine bodyPost_end (v := .tuple #[]) (by simp [results, Try.results80, go_sem]) rfl ⟨rfl, unhide HT _, unhide HG _⟩
  · have hlt' : ¬ (a : Int) < (b : Int) := by omega
    have HT : Hid (∀ m, Trees ((w.drewN m).setCell ⟨g, a * 2 + 1, none⟩ (.pointer (some ⟨g, b * 2, none⟩))) g N (joinP par a b)) := hide fun m => by
      unfold joinP; rw [if_neg hlt]; exact ((unhide H).drewN m).set ha (by omega)
    have HG : Hid (∀ m, w.grownBy ((w.drewN m).setCell ⟨g, a * 2 + 1, none⟩ (.pointer (some ⟨g, b * 2, none⟩))) (some g)) := hide fun m => grown_set (grown_drewN (grown_refl w (some g)) m) _ _
    go_enter Try.func80, Try.ntmps80
    go_wp2_with fail
    go_quiet (fail)
    go_wp2_with fail
    refine bodyPost_end (v := .tuple #[]) (by simp [results, Try.results80, go_sem]) rfl ⟨rfl, unhide HT _, unhide HG _⟩

end Go.Proofs.Ytfahhjgpgccdhac
