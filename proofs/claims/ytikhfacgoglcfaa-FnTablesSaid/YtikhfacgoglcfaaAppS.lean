/-
  One whole number more behind a list that a call has made, as a law for a step of a region that draws its order. At lists of at most 1000000.
-/
import Derived.Test.YtikhfacgoglcfaaAppI
namespace Go.Proofs.Ytikhfacgoglcfaa
open Go.RowKit

theorem step_app_int {ops : Array Oper} {o : Oper} {a : Act} {K : Act → World → Prop} {Q : Exit → Act → World → Prop} {E : Prop} (hgd : o.guard = none) (s xo : Operand)
    (ho : o.op = .call { callee := .builtin .append, args := #[s, xo], argTypes := #[24, 24] }) {wr : World} {base n : Nat} {v : Value} {zs : List Int} (x : Int) (hO : OwnI wr base v zs) (hn : zs.length = n) (hs : a.eval s = v)
    {H : Nat} (hH : wr.heap.size = H) (hx : a.eval xo = .slice (some ⟨H, 0, none⟩) 1 1) (hb : base ≤ wr.heap.size) (hsm : n ≤ 1000000) (hf : -9223372036854775808 ≤ x ∧ x ≤ 9223372036854775807)
    (h : ∀ g cap w', OwnI w' base (.slice (some ⟨g, 0, none⟩) (n + 1) cap) (zs ++ [x]) → wr.grownBy w' v.ownBlock → (v.ownBlock = some g ∨ wr.heap.size < g) → K (a.put o.dst (.slice (some ⟨g, 0, none⟩) (n + 1) cap)) w') :
    if Region.wanted o (yielded ops a.tmps) = true then Oper.wp Try.prog o a (wr.alloc (Obj.cells #[.int .i64 x] 3)) K Q else E := by
  subst hn
  subst hH
  obtain ⟨vs, hown, hvx⟩ := hO.own
  have hbA := bel1 (w := wr) (Obj.cells #[.int .i64 x] 3)
  have hownA := ownsRow_below hown hbA
  have hnews := World.news_of_block (heap_alloc_new wr (Obj.cells #[.int .i64 x] 3))
  obtain ⟨i0, hii, hz0, hz1, hz2⟩ := info_parts info_int1
  refine step_append_lies _ hgd s xo 24 ho base 3 i0 (.int .i64 0) 1 8 Try.underlying24 hii hz0 hz1 hz2 rfl (by decide) v zs.length vs hs hownA ⟨wr.heap.size, 0, none⟩ 1 1 [.int .i64 x] hx rfl hnews (by simp [Value.oneCell']) (by decide) (by unfold maxLen; omega) (by omega) (by simp; omega) _ rfl ?_
  intro g cap w' h1 h2 h3 _
  exact h g cap w' (ownI_app h1 hown.1 hvx hO.fit hf) (grownBy_alloc_then h2) (by
    rcases h3 with h3 | h3
    · exact .inl h3
    · right; rw [h3]; simp)

end Go.Proofs.Ytikhfacgoglcfaa
