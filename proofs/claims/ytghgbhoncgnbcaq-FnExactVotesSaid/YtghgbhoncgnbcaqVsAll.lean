/-
  What the model's Vote answers: as the plain functions. At lists of at most 1048576 that are not nil; nothing that was there is written.
-/
import Derived.Test.YtghgbhoncgnbcaqVsVote
import Derived.Test.YtghgbhoncgnbcaqVsMid
namespace Go.Proofs.Ytghgbhoncgnbcaq
open Go.RowKit

theorem votO_len (n h : Int) (bs : List Bool) (os zs : List Int) : (votOut n h bs os zs).length ≤ bs.length := by
  unfold votOut; split
  · simp; omega
  · exact Nat.le_refl _
theorem votD_len (n h : Int) (bs : List Bool) (os zs : List Int) : (votOdd n h bs os zs).length ≤ os.length := by
  unfold votOdd; split
  · rename_i e
    simp only [votMid, Bool.and_eq_true] at e
    have l := (voFit (seen_parts e.1).1).len
    rw [l]; simp; omega
  · exact Nat.le_refl _
theorem specVote_some (n h : Int) (p1 p2 : Addr) (a3 : Option Addr) (l1 c1 l2 c2 l3 c3 : Nat) (bs : List Bool) (os zs : List Int) (w : World) (hr : VoIn w (some p1) (some p2) l1 l2 bs os) (hz : Row w a3 l3 zs) (h1 : l1 ≤ 1048576) (h2 : l2 ≤ 1048576) :
    Calls Try.prog 18 #[.agg #[.int .i64 n, .int .i64 h, .slice (some p1) l1 c1, .slice (some p2) l2 c2], .slice a3 l3 c3] w fun x w' => ∃ g1 d1 g2 d2 : Nat, x = .returned (.tuple #[.agg #[.int .i64 n, .int .i64 h, .slice (some ⟨g1, 0, none⟩) (votOut n h bs os zs).length d1, .slice (some ⟨g2, 0, none⟩) (votOdd n h bs os zs).length d2], .int .i64 (votX n h bs os zs), .int .i64 (votC n h bs os zs)]) ∧ VoOwn w' w.heap.size (some ⟨g1, 0, none⟩) (some ⟨g2, 0, none⟩) (votOut n h bs os zs).length d1 (votOdd n h bs os zs).length d2 (votOut n h bs os zs) (votOdd n h bs os zs) ∧ Below w.heap.size w w' := by
  by_cases q : 3 ≤ (heardS bs zs).length ∧ seenB n h bs os zs = true
  · exact specVote_mid n h p1 p2 a3 l1 c1 l2 c2 l3 c3 bs os zs w hr hz h1 h2 q.2 q.1
  · refine specVote_few n h p1 p2 a3 l1 c1 l2 c2 l3 c3 bs os zs w hr hz h1 h2 (fun e => ?_)
    rcases Nat.lt_or_ge 2 (heardS bs zs).length with c | c
    · exact absurd ⟨c, e⟩ q
    · exact c

theorem specVote_any (n h : Int) (p1 p2 : Addr) (a3 : Option Addr) (l1 c1 l2 c2 l3 c3 : Nat) (bs : List Bool) (os zs : List Int) (w : World) (hr : VoIn w (some p1) (some p2) l1 l2 bs os) (hz : Row w a3 l3 zs) (h1 : l1 ≤ 1048576) (h2 : l2 ≤ 1048576) :
    Calls Try.prog 18 #[.agg #[.int .i64 n, .int .i64 h, .slice (some p1) l1 c1, .slice (some p2) l2 c2], .slice a3 l3 c3] w fun x w' => ∃ g1 d1 g2 d2, x = .returned (.tuple #[.agg #[.int .i64 n, .int .i64 h, .slice g1 (votOut n h bs os zs).length d1, .slice g2 (votOdd n h bs os zs).length d2], .int .i64 (votX n h bs os zs), .int .i64 (votC n h bs os zs)]) ∧ VoOwn w' w.heap.size g1 g2 (votOut n h bs os zs).length d1 (votOdd n h bs os zs).length d2 (votOut n h bs os zs) (votOdd n h bs os zs) ∧ Below w.heap.size w w' :=
  (specVote_some n h p1 p2 a3 l1 c1 l2 c2 l3 c3 bs os zs w hr hz h1 h2).mono fun _ _ ⟨g1, d1, g2, d2, a, b, c⟩ => ⟨some ⟨g1, 0, none⟩, d1, some ⟨g2, 0, none⟩, d2, a, b, c⟩

end Go.Proofs.Ytghgbhoncgnbcaq
