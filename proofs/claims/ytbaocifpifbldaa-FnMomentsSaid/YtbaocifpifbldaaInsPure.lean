/-
  Plain mathematics of Inside: the bounds at a mass, undivided, and the moment held against them. No program here.
-/
import Derived.Test.YtbaocifpifbldaaEnvPure
namespace Go.Proofs.Ytbaocifpifbldaa

/-- The width between the two neighbours of a mass, and a bound there times the width. -/
def widAt (ms : List Int) (k : Nat) : Int := nth ms (k + 1) - nth ms k
def bndAt (ms bs : List Int) (m : Int) (k : Nat) : Int := nth bs k * (nth ms (k + 1) - nth ms k) + (nth bs (k + 1) - nth bs k) * (m - nth ms k)

def insHead (ms fs gs : List Int) (m q : Int) : Bool := envB ms fs gs && decide (1 ≤ m) && inB m (nth ms 0) (nth ms (ms.length - 1)) && inB q (-1000000000) 1000000000
def foreB (ms fs : List Int) (m q : Int) : Bool := decide (bndAt ms fs m (lowAt ms m) * m ≤ q * widAt ms (lowAt ms m))
def aftB (ms gs : List Int) (m q : Int) : Bool := decide (q * widAt ms (lowAt ms m) ≤ bndAt ms gs m (lowAt ms m) * m)
def insB (ms fs gs : List Int) (m q : Int) : Bool := insHead ms fs gs m q && foreB ms fs m q && aftB ms gs m q

theorem ins_head {ms fs gs : List Int} {m q : Int} (h : insHead ms fs gs m q = false) : insB ms fs gs m q = false := by simp [insB, h]
theorem ins_env {ms fs gs : List Int} {m q : Int} (h : envB ms fs gs = false) : insB ms fs gs m q = false := by simp [insB, insHead, h]
theorem ins_low {ms fs gs : List Int} {m q : Int} (h : ¬ 1 ≤ m) : insB ms fs gs m q = false := by simp [insB, insHead, h]
theorem ins_out {ms fs gs : List Int} {m q : Int} (h : inB m (nth ms 0) (nth ms (ms.length - 1)) = false) : insB ms fs gs m q = false := by simp [insB, insHead, h]
theorem ins_mom {ms fs gs : List Int} {m q : Int} (h : inB q (-1000000000) 1000000000 = false) : insB ms fs gs m q = false := by simp [insB, insHead, h]
theorem ins_yes {ms fs gs : List Int} {m q : Int} (h1 : envB ms fs gs = true) (h2 : 1 ≤ m) (h3 : inB m (nth ms 0) (nth ms (ms.length - 1)) = true) (h4 : inB q (-1000000000) 1000000000 = true) : insB ms fs gs m q = (foreB ms fs m q && aftB ms gs m q) := by simp [insB, insHead, h1, h2, h3, h4]

/-- All numbers of a bound stay small. -/
theorem bnd_bd {x0 x1 y0 y1 m q : Int} (h1 : 0 ≤ x0 ∧ x0 ≤ 400000) (h2 : 0 ≤ x1 ∧ x1 ≤ 400000) (h3 : -1000 ≤ y0 ∧ y0 ≤ 1000) (h4 : -1000 ≤ y1 ∧ y1 ≤ 1000) (h5 : 0 ≤ m ∧ m ≤ 400000) (h6 : -1000000000 ≤ q ∧ q ≤ 1000000000) :
    (-400000000 ≤ y0 * (x1 - x0) ∧ y0 * (x1 - x0) ≤ 400000000) ∧ (-800000000 ≤ (y1 - y0) * (m - x0) ∧ (y1 - y0) * (m - x0) ≤ 800000000) ∧
    (-480000000000000 ≤ (y0 * (x1 - x0) + (y1 - y0) * (m - x0)) * m ∧ (y0 * (x1 - x0) + (y1 - y0) * (m - x0)) * m ≤ 480000000000000) ∧
    (-400000000000000 ≤ q * (x1 - x0) ∧ q * (x1 - x0) ≤ 400000000000000) := by
  have a := mulBd (A := 1000) (B := 400000) (s := y0) (d := x1 - x0) (by omega) (by omega) (by omega) (by omega) (by omega) (by omega)
  have b := mulBd (A := 2000) (B := 400000) (s := y1 - y0) (d := m - x0) (by omega) (by omega) (by omega) (by omega) (by omega) (by omega)
  have c := mulBd (A := 1200000000) (B := 400000) (s := y0 * (x1 - x0) + (y1 - y0) * (m - x0)) (d := m) (by omega) (by omega) (by omega) (by omega) (by omega) (by omega)
  have d := mulBd (A := 1000000000) (B := 400000) (s := q) (d := x1 - x0) (by omega) (by omega) (by omega) (by omega) (by omega) (by omega)
  omega

end Go.Proofs.Ytbaocifpifbldaa
