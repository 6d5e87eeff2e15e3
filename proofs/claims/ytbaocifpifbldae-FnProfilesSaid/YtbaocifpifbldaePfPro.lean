/-
  The way from a first height on, in the model: the plain answer, at every list, slopes and height; the list owns its memory; nothing that was there is written.
-/
import Derived.Test.YtbaocifpifbldaePfBack
import Derived.Test.YtbaocifpifbldaeAppI
import Derived.Test.YtbaocifpifbldaeMarkI
import Derived.Test.YtbaocifpifbldaeOnly
namespace Go.Proofs.Ytbaocifpifbldae
open Go.RowKit

theorem ownI_unit {w : World} {base : Nat} (x : Int) (h : base ≤ w.heap.size) (hf : -9223372036854775808 ≤ x ∧ x ≤ 9223372036854775807) : OwnI (w.alloc (Obj.cells #[.int .i64 x] 3)) base (.slice (some ⟨w.heap.size, 0, none⟩) 1 1) [x] := by
  refine ⟨⟨[.int .i64 x], World.ownsRow_lit w _ 1 h (by unfold maxLen; omega) rfl, fun j hj => ?_⟩, fun i => ?_⟩
  · obtain rfl : j = 0 := by simp at hj; omega
    rfl
  · rcases Nat.eq_zero_or_pos i with rfl | hi
    · exact hf
    · have e : nth [x] i = 0 := by unfold nth; rw [List.getElem?_eq_none (by simp; omega)]; rfl
      rw [e]; omega
theorem prL_len (ps : List Po) (up down first : Int) (k : Nat) : (prL ps up down first k).length = k := by simp [prL]
theorem prL_next (ps : List Po) (up down first : Int) (k : Nat) : prL ps up down first (k + 1) = prL ps up down first k ++ [prA ps up down first k] := by simp [prL, List.range_succ]
theorem prL_at {ps : List Po} {up down first : Int} {k j : Nat} (h : j < k) : nth (prL ps up down first k) j = prA ps up down first j := by simp [prL, nth, h]
theorem prA_bd {ps : List Po} {up down first : Int} (q1 : poB ps = true) (q2 : slB up down = true) (q3 : bkB ps up down = true) (q4 : inB first (bkI ps up down 0).a1 (bkI ps up down 0).a2 = true) : ∀ i, i < ps.length → 0 ≤ prA ps up down first i ∧ prA ps up down first i ≤ 100000
  | 0, hi => by
    have h := in_facts q4
    have k := bkI_in (ps := ps) (up := up) (down := down) hi
    have p := poAt_facts ((poB_facts q1).1 0 hi)
    show 0 ≤ first ∧ first ≤ 100000
    omega
  | i + 1, hi => by
    have ih := prA_bd q1 q2 q3 q4 i (by omega)
    have k := bkI_in (ps := ps) (up := up) (down := down) hi
    have p := poAt_facts ((poB_facts q1).1 (i + 1) hi)
    have b : ¬ (bkI ps up down (i + 1)).a2 < (bkI ps up down (i + 1)).a1 := of_decide_eq_true q3 (i + 1) hi
    have h : (inB up 0 1000 && inB down 0 1000) = true := q2
    simp only [Bool.and_eq_true] at h
    have hd := in_facts h.2
    have e : elAt ps (i + 1 - 1) = elAt ps i := rfl
    rw [e] at p
    have m : 0 ≤ down * ((elAt ps (i + 1)).a0 - (elAt ps i).a0) := Int.mul_nonneg hd.1 (by omega)
    simp only [prA]
    omega
/-- What lies in memory while a way is told: what leads on, and the list of heights. -/
structure PrW (w wr : World) (ps : List Po) (up down : Int) (g c1 B g2 n cp : Nat) (out : List Int) : Prop where
  b : OwnE 3 poC wr w.heap.size 53 (.slice (some ⟨g, 0, none⟩) ps.length c1) (bkL ps up down 0)
  o : OwnI wr B (.slice (some ⟨g2, 0, none⟩) n cp) out
  l : out.length = n
  gB : g < B
  bel : Below w.heap.size w wr
  t : B ≤ wr.heap.size
  hB : w.heap.size ≤ B
theorem PrW.below {w wr w' : World} {ps : List Po} {up down : Int} {g c1 B g2 n cp : Nat} {out : List Int} (k : PrW w wr ps up down g c1 B g2 n cp out) (h : Below wr.heap.size wr w') : PrW w w' ps up down g c1 B g2 n cp out :=
  ⟨k.b.below h, k.o.below h, k.l, k.gB, k.bel.trans (h.mono k.bel.size), Nat.le_trans k.t h.size, k.hB⟩
theorem PrW.app {w wr w' : World} {ps : List Po} {up down : Int} {g c1 B g2 n cp g3 cp3 : Nat} {out : List Int} {z : Int} (k : PrW w wr ps up down g c1 B g2 n cp out) (o : OwnI w' B (.slice (some ⟨g3, 0, none⟩) (n + 1) cp3) (out ++ [z])) (gr : wr.grownBy w' (Value.slice (some ⟨g2, 0, none⟩) n cp).ownBlock) : PrW w w' ps up down g c1 B g3 (n + 1) cp3 (out ++ [z]) := by
  have lg := k.o.lies
  refine ⟨k.b.far gr (fun q hq e => ?_), o, by simp [k.l], k.gB, k.bel.grown gr (Nat.le_trans k.hB k.t) (fun q hq => Nat.le_trans k.hB (lg q hq).1), Nat.le_trans k.t gr.size, k.hB⟩
  have h1 : g = q := Option.some.inj hq
  have h2 := (lg q e.symm).1
  have := k.gB
  omega
theorem PrW.bk {w wr : World} {ps : List Po} {up down : Int} {g c1 B g2 n cp : Nat} {out : List Int} (k : PrW w wr ps up down g c1 B g2 n cp out) {i : Nat} (hi : i < ps.length) (q : Nat) (hq : q < 3) : wr.cell? ⟨g, i * 3 + q, none⟩ = some (poC (bkI ps up down i) q) := by
  have h := (k.b.here (bkL_len _ _ _ _) i hi q hq).1
  rwa [bkL_done hi (Nat.zero_le _)] at h
theorem PrW.at_ {w wr : World} {ps : List Po} {up down : Int} {g c1 B g2 n cp : Nat} {out : List Int} (k : PrW w wr ps up down g c1 B g2 n cp out) {j : Nat} (hj : j < n) : wr.cell? ⟨g2, j, none⟩ = some (.int .i64 (nth out j)) := by
  have l := k.l
  subst l
  exact (k.o.here j hj).1





end Go.Proofs.Ytbaocifpifbldae
