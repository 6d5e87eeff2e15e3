/-
  One element more behind a list that a call has made, as laws for the walk, in the order of the text and in a region that draws its order: elements of several cells. At lists of at most 1000.
-/
import Derived.Test.YtomcbbpaajpeiaaRowE
import Derived.Test.YtomcbbpaajpeiaaMDkW
namespace Go.Proofs.Ytomcbbpaajpeiaa
open Go.RowKit

theorem step_app_elG {α : Type} [Inhabited α] {K : Nat} {cells : α → Nat → Value} {ops : Array Oper} {o : Oper} {a : Act} {L : Act → World → Prop} {Q : Exit → Act → World → Prop} {E : Prop} (hgd : o.guard = none) (s xo : Operand) (sT eT : TypeId)
    (ho : o.op = .call { callee := .builtin .append, args := #[s, xo], argTypes := #[sT, sT] }) (hU : Try.prog.underlying sT = some (.slice eT)) {z : Value} {bytes : Nat} (hI : (Try.prog.info? eT).map (fun i => (i.zero, i.size, i.bytes)) = some (some z, K, bytes)) (hz : z.cells.size = K) (hK : 0 < K) (hby : bytes ≤ 1000)
    {wr : World} {base n : Nat} {v : Value} {zs : List α} (x : α) (us : List Value) (hul : us.length = K) (hux : ∀ q, q < K → us[q]? = some (cells x q)) (hu1 : ∀ u ∈ us, u.oneCell' = true) (hO : OwnE K cells wr base eT v zs) (hn : zs.length = n) (hs : a.eval s = v)
    {H : Nat} (hH : wr.heap.size = H) (hx : a.eval xo = .slice (some ⟨H, 0, none⟩) 1 1) (hb : base ≤ wr.heap.size) (hsm : n ≤ 1000)
    (h : ∀ g cap w', OwnE K cells w' base eT (.slice (some ⟨g, 0, none⟩) (n + 1) cap) (zs ++ [x]) → wr.grownBy w' v.ownBlock → (v.ownBlock = some g ∨ wr.heap.size < g) → L (a.put o.dst (.slice (some ⟨g, 0, none⟩) (n + 1) cap)) w') :
    if Region.wanted o (yielded ops a.tmps) = true then Oper.wp Try.prog o a (wr.alloc (Obj.cells us.toArray eT)) L Q else E := by
  subst hn
  subst hH
  obtain ⟨vs, hown, hvx⟩ := hO.own
  have hbA := bel1 (w := wr) (Obj.cells us.toArray eT)
  have hownA := ownsRow_below hown hbA
  have hnews := World.news_of_block (heap_alloc_new wr (Obj.cells us.toArray eT))
  obtain ⟨i0, hii, hz0, hz1, hz2⟩ := info_parts hI
  have hm : (zs.length + 1) * bytes ≤ 1001 * 1000 := Nat.mul_le_mul (by omega) hby
  refine step_append_lies _ hgd s xo sT ho base eT i0 z K bytes hU hii hz0 hz1 hz2 hz hK v zs.length vs hs hownA ⟨wr.heap.size, 0, none⟩ 1 1 us hx (by rw [hul, Nat.one_mul]) (by simpa using hnews) hu1 (by decide) (by unfold maxLen; omega) (by omega) (by simp; omega) _ rfl ?_
  intro g cap w' h1 h2 h3 _
  refine h g cap w' (ownE_app h1 hown.1 hvx hux) (grownBy_alloc_then h2) ?_
  rcases h3 with h3 | h3
  · exact .inl h3
  · right; rw [h3]; simp

theorem step_app_elD {α : Type} [Inhabited α] {K : Nat} {cells : α → Nat → Value} {ops : Array Oper} {o : Oper} {a : Act} {L : Act → World → Prop} {Q : Exit → Act → World → Prop} {E : Prop} (hgd : o.guard = none) (s xo : Operand) (sT eT : TypeId)
    (ho : o.op = .call { callee := .builtin .append, args := #[s, xo], argTypes := #[sT, sT] }) (hU : Try.prog.underlying sT = some (.slice eT)) {z : Value} {bytes : Nat} (hI : (Try.prog.info? eT).map (fun i => (i.zero, i.size, i.bytes)) = some (some z, K, bytes)) (hz : z.cells.size = K) (hK : 0 < K) (hby : bytes ≤ 1000)
    {wr : World} {base n : Nat} {v : Value} {zs : List α} (x : α) (us : List Value) (hul : us.length = K) (hux : ∀ q, q < K → us[q]? = some (cells x q)) (hu1 : ∀ u ∈ us, u.oneCell' = true) (hO : OwnE K cells wr base eT v zs) (hn : zs.length = n) (hs : a.eval s = v)
    {H : Nat} (hH : wr.heap.size = H) (hx : a.eval xo = .slice (some ⟨H, 0, none⟩) 1 1) (hb : base ≤ wr.heap.size) (hsm : n ≤ 1000)
    (h : ∀ g cap w', OwnE K cells w' base eT (.slice (some ⟨g, 0, none⟩) (n + 1) cap) (zs ++ [x]) → wr.grownBy w' v.ownBlock → (v.ownBlock = some g ∨ wr.heap.size < g) → L (a.put o.dst (.slice (some ⟨g, 0, none⟩) (n + 1) cap)) w') :
    if Region.wanted o (yielded ops a.tmps) = true then Oper.wp Try.prog o a (wr.alloc (Obj.cells us.toArray eT)).drew L Q else E :=
  step_app_elG (wr := wr.drew) hgd s xo sT eT ho hU hI hz hK hby x us hul hux hu1 (hO.below (bel0d 1)) hn hs hH hx hb hsm (fun g cap w' h1 h2 h3 => h g cap w' h1 ⟨h2.os, h2.tape, h2.output, h2.size, h2.block⟩ h3)

theorem wpList_app_elG {α : Type} [Inhabited α] {K : Nat} {cells : α → Nat → Value} {ops : Array Oper} {rest : List Oper} {o : Oper} {a : Act} {Q : Exit → Act → World → Prop} (hgd : o.guard = none) (s xo : Operand) (sT eT : TypeId)
    (ho : o.op = .call { callee := .builtin .append, args := #[s, xo], argTypes := #[sT, sT] }) (hU : Try.prog.underlying sT = some (.slice eT)) {z : Value} {bytes : Nat} (hI : (Try.prog.info? eT).map (fun i => (i.zero, i.size, i.bytes)) = some (some z, K, bytes)) (hz : z.cells.size = K) (hK : 0 < K) (hby : bytes ≤ 1000)
    {wr : World} {base n : Nat} {v : Value} {zs : List α} (x : α) (us : List Value) (hul : us.length = K) (hux : ∀ q, q < K → us[q]? = some (cells x q)) (hu1 : ∀ u ∈ us, u.oneCell' = true) (hO : OwnE K cells wr base eT v zs) (hn : zs.length = n) (hs : a.eval s = v)
    {H : Nat} (hH : wr.heap.size = H) (hx : a.eval xo = .slice (some ⟨H, 0, none⟩) 1 1) (hb : base ≤ wr.heap.size) (hsm : n ≤ 1000)
    (h : ∀ g cap w', OwnE K cells w' base eT (.slice (some ⟨g, 0, none⟩) (n + 1) cap) (zs ++ [x]) → wr.grownBy w' v.ownBlock → (v.ownBlock = some g ∨ wr.heap.size < g) → wpList Try.prog ops Q rest (a.put o.dst (.slice (some ⟨g, 0, none⟩) (n + 1) cap)) w') :
    wpList Try.prog ops Q (o :: rest) a (wr.alloc (Obj.cells us.toArray eT)) := by
  subst hn
  subst hH
  obtain ⟨vs, hown, hvx⟩ := hO.own
  have hbA := bel1 (w := wr) (Obj.cells us.toArray eT)
  have hownA := ownsRow_below hown hbA
  have hnews := World.news_of_block (heap_alloc_new wr (Obj.cells us.toArray eT))
  obtain ⟨i0, hii, hz0, hz1, hz2⟩ := info_parts hI
  have hm : (zs.length + 1) * bytes ≤ 1001 * 1000 := Nat.mul_le_mul (by omega) hby
  refine wpList_append_lies _ hgd s xo sT ho base eT i0 z K bytes hU hii hz0 hz1 hz2 hz hK v zs.length vs hs hownA ⟨wr.heap.size, 0, none⟩ 1 1 us hx (by rw [hul, Nat.one_mul]) (by simpa using hnews) hu1 (by decide) (by unfold maxLen; omega) (by omega) (by simp; omega) _ rfl ?_
  intro g cap w' h1 h2 h3 _
  refine h g cap w' (ownE_app h1 hown.1 hvx hux) (grownBy_alloc_then h2) ?_
  rcases h3 with h3 | h3
  · exact .inl h3
  · right; rw [h3]; simp

end Go.Proofs.Ytomcbbpaajpeiaa
