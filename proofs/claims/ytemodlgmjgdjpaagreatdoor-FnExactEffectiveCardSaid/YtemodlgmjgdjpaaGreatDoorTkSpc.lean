/-
  What the model's Take18 answers: the plain answer, in memory of its own; nothing that was there is written. At lists of at most 1048576.
-/
import Derived.Test.YtemodlgmjgdjpaaGreatDoorTsFail
import Derived.Test.YtemodlgmjgdjpaaGreatDoorTkSuO
import Derived.Test.YtemodlgmjgdjpaaGreatDoorTkSuK
namespace Go.Proofs.YtemodlgmjgdjpaaGreatDoor
open Go Go.RowKit

theorem specTake18_any (s : Int) (a1 : Option Addr) (l1 c1 : Nat) (zs : List Lc) (x : Lx) (sl : Int) (w : World) (hr : AbIn w a1 l1 zs) (hlz : LzB zs) (hin : LxIn w x) (hdn : x.d.n ≤ 1048576) :
    Calls Tryz.prog 17 #[.agg #[.int .i64 s, .slice a1 l1 c1], .agg #[.string x.p, .int .i64 x.nb, .int .i64 x.le, .int .i64 x.mo, .int .i64 x.ne, .slice x.d.a x.d.n x.d.c], .int .i64 sl] w fun e w' => ∃ a9 c9, e = .returned (.tuple #[.agg #[.int .i64 s, .slice a9 (tkL s zs (lxW x) sl).length c9], .int .i64 (tkC s zs (lxW x) sl)]) ∧ AbOwn w' w.heap.size a9 (tkL s zs (lxW x) sl).length c9 (tkL s zs (lxW x) sl) ∧ Below w.heap.size w w' := by
  by_cases hc : tkC s zs (lxW x) sl = 0
  · rcases sa_cases zs x.p with h | ⟨k, hk, h⟩
    · exact specTake18_sO s a1 l1 c1 zs x sl w hr hlz hin hdn hc h
    · exact specTake18_sK s a1 l1 c1 zs x sl w hr hlz hin hdn hc k hk h
  · exact specTake18_fail s a1 l1 c1 zs x sl w hr hlz hin hdn hc

end Go.Proofs.YtemodlgmjgdjpaaGreatDoor
