/-
  What Unpack20 answers, of both sides, at bytes that a call has made; the rows that it makes. At bytes of at most 1048576.
-/
import Derived.Test.YthdnokilfmbgobdUnIm
import Derived.Test.YthdnokilfmbgobdUnSp
import Derived.Test.YthdnokilfmbgobdRrMark
import Derived.Test.YthdnokilfmbgobdOpenBy
namespace Go.Proofs.Ythdnokilfmbgobd
open Go Go.RowKit

theorem implUnpack20_own (base : Nat) (ba : Option Addr) (n bc : Nat) (bs : List Int) (w : World) (ho : OwnE 1 byC w base 5 (.slice ba n bc) bs) (hn : ba ≠ none) (hb : ∀ i, i < n → 0 ≤ elAt bs i ∧ elAt bs i ≤ 255) (hsm : n ≤ 1048576) :
    Calls Try.prog 9 #[.slice ba n bc] w fun e w' => ∃ g c us, e = .returned (.tuple #[.slice (some ⟨g, 0, none⟩) (unLs bs).length c, .int .i64 (unCo bs), .int .i64 (unPl bs)]) ∧ OwnRT w' w.heap.size (.slice (some ⟨g, 0, none⟩) (unLs bs).length c) us (unLs bs) ∧ Below w.heap.size w w' := by
  have hr := ho.row
  rcases ho.form with ⟨e, _⟩ | ⟨g, cap, e, _, hg, hc, _⟩
  · simp only [Value.slice.injEq] at e
    exact absurd e.1 hn
  · simp only [Value.slice.injEq] at e
    obtain ⟨rfl, _, rfl⟩ := e
    exact implUnpack20_some g 0 n bc bs w hr hb hsm (by have := hr.len_eq; omega) hg

end Go.Proofs.Ythdnokilfmbgobd
