/-
  The law's marks of a list of words, and what it finds of them. At lists of at most 1000 words of at most 32 bytes; only the list's own memory is written.
-/
import Derived.Test.YticdccdkjepifaaWxOwn
namespace Go.Proofs.Yticdccdkjepifaa
open Go Go.RowKit

/-- The first k lengths together; the mark at a word. -/
def totW (ws : List Wx) : Nat → Nat
  | 0 => 0
  | k + 1 => totW ws k + (elAt ws k).d.zs.length
def kA (ws : List Wx) (k0 : Int) (j : Nat) : Int := k0 + 2 * (j : Int) + (totW ws j : Int)
theorem kA_succ (ws : List Wx) (k0 : Int) (j : Nat) : kA ws k0 (j + 1) = kA ws k0 j + 2 + ((elAt ws j).d.zs.length : Int) := by
  show k0 + 2 * ((j + 1 : Nat) : Int) + ((totW ws j + (elAt ws j).d.zs.length : Nat) : Int) = k0 + 2 * (j : Int) + (totW ws j : Int) + 2 + ((elAt ws j).d.zs.length : Int)
  omega
theorem kA_zero (ws : List Wx) (k0 : Int) : kA ws k0 0 = k0 := by simp [kA, totW]
theorem kA_bd {ws : List Wx} {k0 : Int} (hd : ∀ i, i < ws.length → (elAt ws i).d.zs.length ≤ 32) : ∀ j, j ≤ ws.length → k0 ≤ kA ws k0 j ∧ kA ws k0 j ≤ k0 + 34 * (j : Int)
  | 0, _ => by rw [kA_zero]; omega
  | j + 1, h => by
    have := kA_bd (k0 := k0) hd j (by omega)
    have := hd j (by omega)
    rw [kA_succ]; omega
def mkW (e : Wx) (k : Int) : Wx := ⟨k, k + 1, { e.d with zs := markBy e.d.zs (k + 2) e.d.n }⟩
/-- After j rounds of the marking. -/
def markWx (ws : List Wx) (k0 : Int) : Nat → List Wx
  | 0 => ws
  | j + 1 => (markWx ws k0 j).set j (mkW (elAt ws j) (kA ws k0 j))
theorem markWx_len (ws : List Wx) (k0 : Int) (j : Nat) : (markWx ws k0 j).length = ws.length := by
  induction j with
  | zero => rfl
  | succ j ih => simp [markWx, ih]
theorem markWx_at (ws : List Wx) (k0 : Int) : ∀ j, j ≤ ws.length → ∀ i, elAt (markWx ws k0 j) i = if i < j then mkW (elAt ws i) (kA ws k0 i) else elAt ws i
  | 0, _, i => by simp [markWx]
  | j + 1, h, i => by
    rw [markWx, elAt_set _ _ _ _ (by rw [markWx_len]; omega)]
    by_cases e : i = j
    · subst e; simp
    · rw [if_neg e, markWx_at ws k0 j (by omega) i]
      by_cases c : i < j
      · rw [if_pos c, if_pos (by omega)]
      · rw [if_neg c, if_neg (by omega)]
theorem OwnWd.mark1 {w : World} {base g n c j : Nat} {us : List Wx} (h : OwnWd w base (.slice (some ⟨g, 0, none⟩) n c) us) (hn : us.length = n) (hj : j < n) (k m : Int) :
    OwnWd ((w.setCell ⟨g, j * 3, none⟩ (.int .i64 k)).setCell ⟨g, j * 3 + 1, none⟩ (.int .i64 m)) base (.slice (some ⟨g, 0, none⟩) n c) (us.set j ⟨k, m, (elAt us j).d⟩) := by
  have o1 := h.out.setOne hn j hj 0 (by omega) (.int .i64 k) ⟨k, (elAt us j).s, (elAt us j).d⟩ (fun p hp => by match p, hp with | 0, _ => rfl | 1, _ => rfl | 2, _ => rfl)
  have o2 := o1.setMore hn hj 1 (by omega) (.int .i64 m) ⟨k, m, (elAt us j).d⟩ (fun p hp => by match p, hp with | 0, _ => rfl | 1, _ => rfl | 2, _ => rfl)
  have ed : ∀ i, (elAt (us.set j ⟨k, m, (elAt us j).d⟩) i).d = (elAt us i).d := fun i => by
    rw [elAt_set _ _ _ _ (by omega)]
    split
    · rename_i e; subst e; rfl
    · rfl
  refine ⟨o2, fun i hi => ?_, fun i hi q hq => ?_, fun i i2 hij hi2 q hq => ?_⟩
  · rw [List.length_set] at hi
    rw [ed]
    have hne : (slV (elAt us i).d).ownBlock ≠ some g := fun e => h.apt i hi g e rfl
    exact ((h.dat i hi).set_other _ hne).set_other _ hne
  · rw [List.length_set] at hi
    rw [ed] at hq
    exact h.apt i hi q hq
  · rw [List.length_set] at hi2
    rw [ed] at hq ⊢
    exact h.par i i2 hij hi2 q hq
theorem OwnWd.mark2 {w w' : World} {base j : Nat} {v : Value} {us : List Wx} {zs : List Int} (h : OwnWd w base v us) (hj : j < us.length) (o : OwnE 1 byC w' base 5 (slV (elAt us j).d) zs) (gr : w.grownBy w' (slV (elAt us j).d).ownBlock) :
    OwnWd w' base v (us.set j ⟨(elAt us j).l, (elAt us j).s, { (elAt us j).d with zs := zs }⟩) := by
  have ev : ∀ i, slV (elAt (us.set j ⟨(elAt us j).l, (elAt us j).s, { (elAt us j).d with zs := zs }⟩) i).d = slV (elAt us i).d := fun i => by
    rw [elAt_set _ _ _ _ hj]
    split
    · rename_i e; subst e; rfl
    · rfl
  refine ⟨?_, fun i hi => ?_, fun i hi q hq => ?_, fun i i2 hij hi2 q hq => ?_⟩
  · have o2 := h.out.far gr (fun q hq e => h.apt j hj q e.symm hq)
    obtain ⟨xs, h1, h2⟩ := o2.own
    refine ⟨⟨xs, by rw [List.length_set]; exact h1, fun i hi p hp => ?_⟩⟩
    rw [List.length_set] at hi
    have := h2 i hi p hp
    rw [this, elAt_set _ _ _ _ hj]
    split
    · rename_i e; subst e
      match p, hp with
      | 0, _ => rfl
      | 1, _ => rfl
      | 2, _ => rfl
    · rfl
  · rw [List.length_set] at hi
    rw [ev]
    by_cases e : i = j
    · subst e
      rw [elAt_set _ _ _ _ hj, if_pos rfl]; exact o
    · rw [elAt_set _ _ _ _ hj, if_neg e]
      refine (h.dat i hi).far gr (fun q hq e2 => ?_)
      rcases Nat.lt_or_gt_of_ne e with c | c
      · exact h.par i j c hj q hq e2.symm
      · exact h.par j i c hi q e2.symm hq
  · rw [List.length_set] at hi
    rw [ev] at hq
    exact h.apt i hi q hq
  · rw [List.length_set] at hi2
    rw [ev] at hq ⊢
    exact h.par i i2 hij hi2 q hq
theorem grown_two (w : World) (g o1 o2 : Nat) (v1 v2 : Value) : w.grownBy ((w.setCell ⟨g, o1, none⟩ v1).setCell ⟨g, o2, none⟩ v2) (some g) := grown_set (grown_set (grown_refl w (some g)) o1 v1) o2 v2
theorem wd_set {us : List Wx} {j : Nat} {x y : Wx} (hj : j < us.length) (h : (⟨x.l, x.s, { x.d with zs := y.d.zs }⟩ : Wx) = y) : (us.set j x).set j ⟨(elAt (us.set j x) j).l, (elAt (us.set j x) j).s, { (elAt (us.set j x) j).d with zs := y.d.zs }⟩ = us.set j y := by
  rw [elAt_set _ _ _ _ hj, if_pos rfl, h, List.set_set]



end Go.Proofs.Yticdccdkjepifaa
