/-
  What the model's Update14 answers, at every argument; nothing that was there is written.
-/
import Derived.Test.YtbaocifpifbldawGreatWrUpo
import Derived.Test.YtbaocifpifbldawGreatUpPure
namespace Go.Proofs.YtbaocifpifbldawGreat
open Go.RowKit

theorem specUpdate14_any (ad : Option Addr) (len cap : Nat) (rs : List Wr) (a1 a2 a3 : Option Addr) (l1 c1 l2 c2 l3 c3 : Nat) (z1 z2 z3 : List ByteArray) (ph : Int) (bd : Option Addr) (len2 cap2 : Nat) (ts : List ByteArray) (w : World) (hr : RowW w ad len rs) (hl : len ≤ 1048576) (hp : PnIn w a1 a2 a3 l1 l2 l3 z1 z2 z3) (h1 : l1 ≤ 1048576) (h2 : l2 ≤ 1048576) (h3 : l3 ≤ 1048576) (ht : RowE 1 stC w bd len2 ts) (hl2 : len2 ≤ 1048576) :
    Calls Tryz.prog 7 #[.slice ad len cap, .agg #[.slice a1 l1 c1, .slice a2 l2 c2, .slice a3 l3 c3], .int .i64 ph, .slice bd len2 cap2] w fun e w' => ∃ p1 q1 p2 q2 p3 q3 p4 q4, e = .returned (.tuple #[.agg #[.slice p1 (up1 rs z1 z2 z3 ts ph).length q1, .slice p2 (up2 rs z1 z2 z3 ts ph).length q2, .slice p3 (up3 rs z1 z2 z3 ts ph).length q3], .slice p4 (upT rs z1 z2 z3 ts ph).length q4, .bool (upB rs z1 z2 z3 ts ph)]) ∧ PnOwn w' w.heap.size p1 p2 p3 (up1 rs z1 z2 z3 ts ph).length q1 (up2 rs z1 z2 z3 ts ph).length q2 (up3 rs z1 z2 z3 ts ph).length q3 (up1 rs z1 z2 z3 ts ph) (up2 rs z1 z2 z3 ts ph) (up3 rs z1 z2 z3 ts ph) ∧ OwnE 1 stC w' w.heap.size 9 (.slice p4 (upT rs z1 z2 z3 ts ph).length q4) (upT rs z1 z2 z3 ts ph) ∧ PnFar p1 p2 p3 p4 ∧ Below w.heap.size w w' := by
  cases hu : upB rs z1 z2 z3 ts ph with
  | false =>
    obtain ⟨e1, e2, e3, e4⟩ := up_no hu
    rw [e1, e2, e3, e4]
    refine (specUpdate14_off ad len cap rs a1 a2 a3 l1 c1 l2 c2 l3 c3 z1 z2 z3 ph bd len2 cap2 ts w hr hl hp h1 h2 h3 ht hl2 hu).mono ?_
    rintro e w' ⟨g, rfl, o, b⟩
    refine ⟨none, 0, none, 0, none, 0, some ⟨g, 0, none⟩, 0, rfl, ⟨ownE_nil _ _ _, ownE_nil _ _ _, ownE_nil _ _ _, (fun q hq => by cases hq), (fun q hq => by cases hq), (fun q hq => by cases hq)⟩, o, ?_, b⟩
    intro a b _ hb
    rcases hb with hb | hb | hb <;> cases hb
  | true =>
    obtain ⟨e1, e2, e3, e4⟩ := up_yes hu
    rw [e1, e2, e3, e4]
    unfold upB at hu
    simp only [Bool.and_eq_true] at hu
    exact specUpdate14_on ad len cap rs a1 a2 a3 l1 c1 l2 c2 l3 c3 z1 z2 z3 ph bd len2 cap2 ts w hr hl hp h1 h2 h3 ht hl2 hu.1.1.1 hu.1.1.2 hu.1.2 hu.2

end Go.Proofs.YtbaocifpifbldawGreat
