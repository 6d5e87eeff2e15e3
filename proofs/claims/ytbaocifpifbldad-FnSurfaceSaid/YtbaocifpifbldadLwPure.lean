/-
  What a surface is told, in plain numbers. No program here.
-/
import Derived.Test.YtbaocifpifbldadCtlPure
namespace Go.Proofs.Ytbaocifpifbldad
open Go

def lwOk (m : Int) (xs ys : List Int) (k r l lo hi st now : Int) : Bool := inB m 0 2 && gaB xs ys && stB k r l && liB lo hi st && inB now lo hi
/-- What is wanted. -/
def lwW (m : Int) (xs ys : List Int) (k r v : Int) : Int := if m = 2 then 10 * k else (gaAt xs ys v * (k - r)).tdiv 100
/-- Held by load. -/
def lwH (m l now x : Int) : Int := if m = 0 ∧ ((250 < l ∧ now < x) ∨ (l < -100 ∧ x < now)) then now else x
/-- Held by all. -/
def lwT (m l lo hi st now x : Int) : Int := holdI (holdI (lwH m l now x) lo hi) (now - st) (now + st)
def lwTold (m : Int) (xs ys : List Int) (k r v l lo hi st now : Int) : Int := if lwOk m xs ys k r l lo hi st now then lwT m l lo hi st now (lwW m xs ys k r v) else now
def lwCode (m : Int) (xs ys : List Int) (k r v l lo hi st now : Int) : Int := if lwOk m xs ys k r l lo hi st now then (if lwT m l lo hi st now (lwW m xs ys k r v) = lwW m xs ys k r v then 0 else 2) else 1
theorem lw_no {m : Int} {xs ys : List Int} {k r l lo hi st now : Int} (v : Int) (h : lwOk m xs ys k r l lo hi st now = false) : lwTold m xs ys k r v l lo hi st now = now ∧ lwCode m xs ys k r v l lo hi st now = 1 := by simp [lwTold, lwCode, h]
theorem lw_yes {m : Int} {xs ys : List Int} {k r l lo hi st now : Int} (v : Int) (h : lwOk m xs ys k r l lo hi st now = true) : lwTold m xs ys k r v l lo hi st now = lwT m l lo hi st now (lwW m xs ys k r v) ∧ lwCode m xs ys k r v l lo hi st now = (if lwT m l lo hi st now (lwW m xs ys k r v) = lwW m xs ys k r v then 0 else 2) := by simp [lwTold, lwCode, h]
structure LwFit (m : Int) (xs ys : List Int) (k r l lo hi st now : Int) : Prop where
  m0 : 0 ≤ m
  m1 : m ≤ 2
  ga : gaB xs ys = true
  sk : StFit k r l
  li : LiFit lo hi st
  n0 : lo ≤ now
  n1 : now ≤ hi
theorem lwFit {m : Int} {xs ys : List Int} {k r l lo hi st now : Int} (h : lwOk m xs ys k r l lo hi st now = true) : LwFit m xs ys k r l lo hi st now := by
  simp only [lwOk, Bool.and_eq_true] at h
  obtain ⟨⟨⟨⟨h1, h2⟩, h3⟩, h4⟩, h5⟩ := h
  have f1 := in_facts h1
  have f5 := in_facts h5
  exact ⟨f1.1, f1.2, h2, stFit h3, liFit h4, f5.1, f5.2⟩
theorem tdivBd {x : Int} (h0 : -11000000 ≤ x) (h1 : x ≤ 11000000) : -11000000 ≤ x.tdiv 100 ∧ x.tdiv 100 ≤ 11000000 := by
  rcases Int.le_total 0 x with h | h
  · rw [Int.tdiv_eq_ediv_of_nonneg h]; omega
  · have e : x = -(-x) := by omega
    rw [e, Int.neg_tdiv, Int.tdiv_eq_ediv_of_nonneg (by omega)]; omega
theorem gaMul_bd {k r l : Int} (xs ys : List Int) (v : Int) (f : StFit k r l) : -11000000 ≤ gaAt xs ys v * (k - r) ∧ gaAt xs ys v * (k - r) ≤ 11000000 := by
  have h := gaAt_bd xs ys v
  have := f.a0; have := f.a1; have := f.r0; have := f.r1
  exact mulBd (A := 1000) (B := 11000) (by omega) (by omega) (by omega) (by omega) (by omega) (by omega)
theorem lwW_bd {m : Int} {xs ys : List Int} {k r l lo hi st now : Int} (v : Int) (f : LwFit m xs ys k r l lo hi st now) : -11000000 ≤ lwW m xs ys k r v ∧ lwW m xs ys k r v ≤ 11000000 := by
  have := f.sk.a0; have := f.sk.a1
  unfold lwW
  split
  · omega
  · have h := gaMul_bd xs ys v f.sk
    exact tdivBd h.1 h.2
theorem lwH_now {l now x : Int} (h : (250 < l ∧ now < x) ∨ (l < -100 ∧ x < now)) : lwH 0 l now x = now := by simp [lwH, h]
theorem lwH_x {m l now x : Int} (h : ¬ (m = 0 ∧ ((250 < l ∧ now < x) ∨ (l < -100 ∧ x < now)))) : lwH m l now x = x := by simp only [lwH, h, if_false]
theorem ret_ii {a b c d : Int} (h : a = b) (h2 : c = d) : Ending.returned (.tuple #[.int .i64 a, .int .i64 c]) = .returned (.tuple #[.int .i64 b, .int .i64 d]) := by rw [h, h2]

end Go.Proofs.Ytbaocifpifbldad
