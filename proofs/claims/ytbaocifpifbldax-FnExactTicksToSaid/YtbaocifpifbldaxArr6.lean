/-
  An array of six values is its six values. No condition.
-/
import Derived.Test.YtbaocifpifbldaxArr
namespace Go.Proofs.Ytbaocifpifbldax
open Go

theorem arr6 (cs : Array Value) (h : cs.size = 6) {c0 c1 c2 c3 c4 c5 : Value} (e0 : cs[0]? = some c0) (e1 : cs[1]? = some c1) (e2 : cs[2]? = some c2) (e3 : cs[3]? = some c3) (e4 : cs[4]? = some c4) (e5 : cs[5]? = some c5) : cs = #[c0, c1, c2, c3, c4, c5] := by
  refine Array.ext' ?_
  refine List.ext_getElem? fun i => ?_
  match i with
  | 0 => simpa using e0
  | 1 => simpa using e1
  | 2 => simpa using e2
  | 3 => simpa using e3
  | 4 => simpa using e4
  | 5 => simpa using e5
  | i + 6 => simp; omega

end Go.Proofs.Ytbaocifpifbldax
