/-
  The lanes of a round one by one, in plain numbers; the model's halves, sizes; what lies at the head of a round of its loop.
-/
import Derived.Test.YtidgkkldhnckeadVsHeard
import Derived.Test.YtidgkkldhnckeadCopyIs
import Derived.Test.YtidgkkldhnckeadVotePure
namespace Go.Proofs.Ytidgkkldhnckead
open Go.RowKit

theorem tdiv2_bd {a : Int} (h : -4000000 ≤ a ∧ a ≤ 4000000) : -2000000 ≤ a.tdiv 2 ∧ a.tdiv 2 ≤ 2000000 := by
  rcases Int.le_total 0 a with h0 | h0
  · rw [Int.tdiv_eq_ediv_of_nonneg h0]; omega
  · have e : a = -(-a) := by omega
    rw [e, Int.neg_tdiv, Int.tdiv_eq_ediv_of_nonneg (by omega)]; omega
/-- The lists behind the first k lanes of a round with the middle value x. -/
def lnO (n h : Int) (bs : List Bool) (os zs : List Int) (x : Int) (k : Nat) : List Bool := (List.range bs.length).map fun i => if i < k then jdO n h (elAt bs i) (nth os i) (nth zs i) x else elAt bs i
def lnD (n h : Int) (bs : List Bool) (os zs : List Int) (x : Int) (k : Nat) : List Int := (List.range bs.length).map fun i => if i < k then jdD n h (elAt bs i) (nth os i) (nth zs i) x else nth os i
theorem elAt_lnO {n h : Int} {bs : List Bool} {os zs : List Int} {x : Int} {k i : Nat} (hi : i < bs.length) : elAt (lnO n h bs os zs x k) i = if i < k then jdO n h (elAt bs i) (nth os i) (nth zs i) x else elAt bs i := by
  unfold lnO
  simp only [elAt, List.getElem?_map, List.getElem?_range hi, Option.map_some, Option.getD_some]
theorem nth_lnD {n h : Int} {bs : List Bool} {os zs : List Int} {x : Int} {k i : Nat} (hi : i < bs.length) : nth (lnD n h bs os zs x k) i = if i < k then jdD n h (elAt bs i) (nth os i) (nth zs i) x else nth os i := by
  unfold lnD
  simp only [nth, List.getElem?_map, List.getElem?_range hi, Option.map_some, Option.getD_some]
theorem lnO_len (n h : Int) (bs : List Bool) (os zs : List Int) (x : Int) (k : Nat) : (lnO n h bs os zs x k).length = bs.length := by simp [lnO]
theorem lnD_len (n h : Int) (bs : List Bool) (os zs : List Int) (x : Int) (k : Nat) : (lnD n h bs os zs x k).length = bs.length := by simp [lnD]
theorem lnO_zero (n h : Int) (bs : List Bool) (os zs : List Int) (x : Int) : lnO n h bs os zs x 0 = bs := by
  apply List.ext_getElem (by simp [lnO])
  intro i h1 h2
  simp [lnO, elAt, List.getElem?_eq_getElem h2]
theorem lnD_zero {n h : Int} {bs : List Bool} {os zs : List Int} {x : Int} (hl : os.length = bs.length) : lnD n h bs os zs x 0 = os := by
  apply List.ext_getElem (by simp [lnD, hl])
  intro i h1 h2
  simp [lnD, nth, List.getElem?_eq_getElem h2]
theorem lnO_step (n h : Int) (bs : List Bool) (os zs : List Int) (x : Int) (k : Nat) : lnO n h bs os zs x (k + 1) = (lnO n h bs os zs x k).set k (jdO n h (elAt bs k) (nth os k) (nth zs k) x) := by
  apply List.ext_getElem (by simp [lnO])
  intro i h1 h2
  rw [List.getElem_set]
  simp only [lnO, List.getElem_map, List.getElem_range]
  by_cases e : k = i
  · subst e; simp
  · rw [if_neg e]
    by_cases c : i < k
    · rw [if_pos (by omega), if_pos c]
    · rw [if_neg (by omega), if_neg c]
theorem lnD_step (n h : Int) (bs : List Bool) (os zs : List Int) (x : Int) (k : Nat) : lnD n h bs os zs x (k + 1) = (lnD n h bs os zs x k).set k (jdD n h (elAt bs k) (nth os k) (nth zs k) x) := by
  apply List.ext_getElem (by simp [lnD])
  intro i h1 h2
  rw [List.getElem_set]
  simp only [lnD, List.getElem_map, List.getElem_range]
  by_cases e : k = i
  · subst e; simp
  · rw [if_neg e]
    by_cases c : i < k
    · rw [if_pos (by omega), if_pos c]
    · rw [if_neg (by omega), if_neg c]
theorem lnO_out {n h : Int} {bs : List Bool} {os zs : List Int} {x : Int} {k : Nat} (ho : elAt bs k = true) : lnO n h bs os zs x (k + 1) = lnO n h bs os zs x k := by
  apply List.ext_getElem (by simp [lnO])
  intro i h1 h2
  simp only [lnO, List.getElem_map, List.getElem_range]
  by_cases e : i = k
  · subst e; simp [jdO, ho]
  · by_cases c : i < k
    · rw [if_pos (by omega), if_pos c]
    · rw [if_neg (by omega), if_neg c]
theorem lnD_out {n h : Int} {bs : List Bool} {os zs : List Int} {x : Int} {k : Nat} (ho : elAt bs k = true) : lnD n h bs os zs x (k + 1) = lnD n h bs os zs x k := by
  apply List.ext_getElem (by simp [lnD])
  intro i h1 h2
  simp only [lnD, List.getElem_map, List.getElem_range]
  by_cases e : i = k
  · subst e; simp [jdD, ho]
  · by_cases c : i < k
    · rw [if_pos (by omega), if_pos c]
    · rw [if_neg (by omega), if_neg c]
theorem lnO_all {n h : Int} {bs : List Bool} {os zs : List Int} {x : Int} (h5 : bs.length ≤ 5) : lnO n h bs os zs x bs.length = (fiveJO n h bs os zs x).take bs.length := by
  apply List.ext_getElem (by simp [lnO, fiveJO]; omega)
  intro i h1 h2
  have hi : i < bs.length := by simpa [lnO] using h1
  simp only [lnO, List.getElem_map, List.getElem_range, hi, if_true, List.getElem_take]
  have hi5 : i < 5 := by omega
  rcases (show i = 0 ∨ i = 1 ∨ i = 2 ∨ i = 3 ∨ i = 4 by omega) with e | e | e | e | e <;> subst e <;> simp [fiveJO, laneO, hi]
theorem lnD_all {n h : Int} {bs : List Bool} {os zs : List Int} {x : Int} (h5 : bs.length ≤ 5) : lnD n h bs os zs x bs.length = (fiveJD n h bs os zs x).take bs.length := by
  apply List.ext_getElem (by simp [lnD, fiveJD]; omega)
  intro i h1 h2
  have hi : i < bs.length := by simpa [lnD] using h1
  simp only [lnD, List.getElem_map, List.getElem_range, hi, if_true, List.getElem_take]
  rcases (show i = 0 ∨ i = 1 ∨ i = 2 ∨ i = 3 ∨ i = 4 by omega) with e | e | e | e | e <;> subst e <;> simp [fiveJD, laneO, hi]
theorem jd_far {n h d s x : Int} (hf : n < ((s - x).natAbs : Int)) : jdD n h false d s x = min h (d + 1) ∧ jdO n h false d s x = (min h (d + 1) == h) := by
  have e : inB s (x - n) (x + n) = false := by simp only [inB, decide_eq_false_iff_not]; omega
  have em : min (d + 1) h = min h (d + 1) := by omega
  simp [jdD, jdO, e, em]
theorem jd_near {n h d s x : Int} (hf : ¬ n < ((s - x).natAbs : Int)) (hh : 1 ≤ h) : jdD n h false d s x = 0 ∧ jdO n h false d s x = ((0 : Int) == h) := by
  have e : inB s (x - n) (x + n) = true := by simp only [inB, decide_eq_true_eq]; omega
  have e0 : ((0 : Int) == h) = false := by simp; omega
  simp [jdD, jdO, e, e0]

/-- What lies at the head of a round. -/
structure Vst (w wr : World) (n h : Int) (p1 p2 : Addr) (c1 c2 O g1 g2 L d1 d2 : Nat) (B : List Bool) (D : List Int) : Prop where
  p : Blk wr w.heap.size [.int .i64 n, .int .i64 h, .slice (some p1) L c1, .slice (some p2) L c2]
  r : Blk wr (w.heap.size + 1) [.int .i64 0, .int .i64 0, .slice none 0 0, .slice none 0 0]
  o : Blk wr O [.int .i64 n, .int .i64 h, .slice (some ⟨g1, 0, none⟩) L d1, .slice (some ⟨g2, 0, none⟩) L d2]
  k1 : OwnE 1 boC wr (w.heap.size + 1 + 1) 4 (.slice (some ⟨g1, 0, none⟩) L d1) B
  k2 : OwnI wr (w.heap.size + 1 + 1) (.slice (some ⟨g2, 0, none⟩) L d2) D
  ne : g1 ≠ g2
  n1 : g1 ≠ O
  n2 : g2 ≠ O
  l1 : B.length = L
  l2 : D.length = L
  b : Below w.heap.size w wr
theorem Vst.below {w wr w2 : World} {n h : Int} {p1 p2 : Addr} {c1 c2 O g1 g2 L d1 d2 : Nat} {B : List Bool} {D : List Int} (S : Vst w wr n h p1 p2 c1 c2 O g1 g2 L d1 d2 B D) (b : Below wr.heap.size wr w2) : Vst w w2 n h p1 p2 c1 c2 O g1 g2 L d1 d2 B D :=
  ⟨S.p.below b, S.r.below b, S.o.below b, S.k1.below b, S.k2.below b, S.ne, S.n1, S.n2, S.l1, S.l2, S.b.trans (b.mono S.b.size)⟩
theorem Vst.set1 {w wr : World} {n h : Int} {p1 p2 : Addr} {c1 c2 O g1 g2 L d1 d2 : Nat} {B : List Bool} {D : List Int} (S : Vst w wr n h p1 p2 c1 c2 O g1 g2 L d1 d2 B D) {k : Nat} (hk : k < L) (x : Bool) :
    Vst w (wr.setCell ⟨g1, k, none⟩ (.bool x)) n h p1 p2 c1 c2 O g1 g2 L d1 d2 (B.set k x) D := by
  have l := S.k1.lies g1 rfl
  have n1 := S.n1
  exact ⟨S.p.other (by simp; omega) _, S.r.other (by simp; omega) _, S.o.other (by simpa using n1) _, S.k1.set1 S.l1 k hk _ x rfl, S.k2.set_other _ (by simp [Value.ownBlock]; exact fun e => S.ne e.symm), S.ne, S.n1, S.n2, by simp [S.l1], S.l2, S.b.setCell (by simp; omega) _⟩
theorem Vst.set2 {w wr : World} {n h : Int} {p1 p2 : Addr} {c1 c2 O g1 g2 L d1 d2 : Nat} {B : List Bool} {D : List Int} (S : Vst w wr n h p1 p2 c1 c2 O g1 g2 L d1 d2 B D) {k : Nat} (hk : k < L) (x : Int) (hx : -9223372036854775808 ≤ x ∧ x ≤ 9223372036854775807) :
    Vst w (wr.setCell ⟨g2, k, none⟩ (.int .i64 x)) n h p1 p2 c1 c2 O g1 g2 L d1 d2 B (D.set k x) := by
  have l := S.k2.lies g2 rfl
  have n2 := S.n2
  have o2 := S.k2
  rw [← S.l2] at o2
  have o3 := o2.set k (by rw [S.l2]; exact hk) x hx
  rw [S.l2] at o3
  exact ⟨S.p.other (by simp; omega) _, S.r.other (by simp; omega) _, S.o.other (by simpa using n2) _, S.k1.set_other _ (by simp [Value.ownBlock]; exact S.ne), o3, S.ne, S.n1, S.n2, S.l1, by simp [S.l2], S.b.setCell (by simp; omega) _⟩

end Go.Proofs.Ytidgkkldhnckead
