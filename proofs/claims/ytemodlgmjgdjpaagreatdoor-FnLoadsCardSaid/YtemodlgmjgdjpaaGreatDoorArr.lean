/-
  An array of two to five values is what its places hold. No program here.
-/
import Derived.WalkKit
namespace Go.Proofs.YtemodlgmjgdjpaaGreatDoor
open Go

theorem arr2 (cs : Array Value) (h : cs.size = 2) {c0 c1 : Value} (e0 : cs[0]? = some c0) (e1 : cs[1]? = some c1) : cs = #[c0, c1] := by
  refine Array.ext' ?_
  refine List.ext_getElem? fun i => ?_
  match i with
  | 0 => simpa using e0
  | 1 => simpa using e1
  | i + 2 => simp; omega
theorem arr3 (cs : Array Value) (h : cs.size = 3) {c0 c1 c2 : Value} (e0 : cs[0]? = some c0) (e1 : cs[1]? = some c1) (e2 : cs[2]? = some c2) : cs = #[c0, c1, c2] := by
  refine Array.ext' ?_
  refine List.ext_getElem? fun i => ?_
  match i with
  | 0 => simpa using e0
  | 1 => simpa using e1
  | 2 => simpa using e2
  | i + 3 => simp; omega
theorem arr4 (cs : Array Value) (h : cs.size = 4) {c0 c1 c2 c3 : Value} (e0 : cs[0]? = some c0) (e1 : cs[1]? = some c1) (e2 : cs[2]? = some c2) (e3 : cs[3]? = some c3) : cs = #[c0, c1, c2, c3] := by
  refine Array.ext' ?_
  refine List.ext_getElem? fun i => ?_
  match i with
  | 0 => simpa using e0
  | 1 => simpa using e1
  | 2 => simpa using e2
  | 3 => simpa using e3
  | i + 4 => simp; omega
theorem arr5 (cs : Array Value) (h : cs.size = 5) {c0 c1 c2 c3 c4 : Value} (e0 : cs[0]? = some c0) (e1 : cs[1]? = some c1) (e2 : cs[2]? = some c2) (e3 : cs[3]? = some c3) (e4 : cs[4]? = some c4) : cs = #[c0, c1, c2, c3, c4] := by
  refine Array.ext' ?_
  refine List.ext_getElem? fun i => ?_
  match i with
  | 0 => simpa using e0
  | 1 => simpa using e1
  | 2 => simpa using e2
  | 3 => simpa using e3
  | 4 => simpa using e4
  | i + 5 => simp; omega

end Go.Proofs.YtemodlgmjgdjpaaGreatDoor
