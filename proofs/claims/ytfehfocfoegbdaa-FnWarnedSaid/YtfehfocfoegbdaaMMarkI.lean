/-
  The law's marks in a list of whole numbers that a call has made: every number gets the next number, and nothing else is written; the marks are found again. A list that is made empty, and one number more behind a list.
  One whole number more behind a list that a call has made, as a law for the walk. At lists of at most 1000000.
  One element more behind a list that a call has made, as laws for the walk, in the order of the text and in a region that draws its order: elements of several cells. At lists of at most 1000.
-/
import Derived.Test.YtfehfocfoegbdaaOwnI
import Derived.Deep.AppendLies
import Derived.Test.YtfehfocfoegbdaaRowE

namespace Go.Proofs.Ytfehfocfoegbdaa
open Go.RowKit

theorem info_int1 : (Try.prog.info? 3).map (fun i => (i.zero, i.size, i.bytes)) = some (some (.int .i64 0), 1, 8) := by kernel_rfl
theorem ownI_none {w w1 : World} (h : w.heap.size ≤ w1.heap.size) : OwnI (w1.alloc (Obj.cells #[] 3)) w.heap.size (.slice (some ⟨w1.heap.size, 0, none⟩) 0 0) [] := by
  refine ⟨⟨[], ⟨rfl, .inr ⟨_, _, #[], rfl, h, ?_, Nat.le_refl _, by simp [maxLen], rfl, rfl⟩⟩, fun j hj => by simp at hj⟩, fun i => by simp [nth]⟩
  show (w1.heap.push _)[w1.heap.size]? = _
  simp
theorem nth_app (Z : List Int) (a : Int) : (∀ i, i < Z.length → nth (Z ++ [a]) i = nth Z i) ∧ nth (Z ++ [a]) Z.length = a := by
  refine ⟨fun i hi => ?_, ?_⟩
  · unfold nth; rw [List.getElem?_append_left hi]
  · simp [nth]
theorem ownI_app {w : World} {base : Nat} {v : Value} {Z : List Int} {vs : List Value} {a : Int} (h : w.ownsRow base 3 1 v (Z.length + 1) (vs ++ [.int .i64 a])) (hl : vs.length = Z.length * 1)
    (hx : ∀ j, j < Z.length → vs[j]? = some (.int .i64 (nth Z j))) (hf : ∀ i : Nat, -9223372036854775808 ≤ nth Z i ∧ nth Z i ≤ 9223372036854775807) (ha : -9223372036854775808 ≤ a ∧ a ≤ 9223372036854775807) : OwnI w base v (Z ++ [a]) := by
  obtain ⟨h1, h2⟩ := nth_app Z a
  refine ⟨⟨vs ++ [.int .i64 a], by simpa using h, fun j hj => ?_⟩, fun i => ?_⟩
  · simp only [List.length_append, List.length_cons, List.length_nil] at hj
    by_cases e : j < Z.length
    · rw [h1 j e, List.getElem?_append_left (by omega)]
      exact hx j e
    · obtain rfl : j = Z.length := by omega
      rw [h2, List.getElem?_append_right (by omega), hl]
      simp
  · by_cases e : i < Z.length
    · rw [h1 i e]; exact hf i
    · by_cases e' : i = Z.length
      · subst e'; rw [h2]; exact ha
      · have : nth (Z ++ [a]) i = 0 := by unfold nth; rw [List.getElem?_eq_none (by simp; omega)]; rfl
        rw [this]; omega


end Go.Proofs.Ytfehfocfoegbdaa

namespace Go.Proofs.Ytfehfocfoegbdaa
open Go.RowKit

theorem grownBy_alloc_then {w w' : World} {o : Obj} {row : Option Nat} (h : (w.alloc o).grownBy w' row) : w.grownBy w' row :=
  ⟨h.os, h.tape, h.output, Nat.le_trans (by simp) h.size, fun k hk hne => (h.block k (Nat.lt_of_lt_of_le hk (by simp)) hne).trans (Below.heap_alloc _ _ _ hk)⟩
theorem wpList_app_int {ops : Array Oper} {rest : List Oper} {o : Oper} {a : Act} {Q : Exit → Act → World → Prop} (hgd : o.guard = none) (s xo : Operand)
    (ho : o.op = .call { callee := .builtin .append, args := #[s, xo], argTypes := #[25, 25] }) {wr : World} {base n : Nat} {v : Value} {zs : List Int} (x : Int) (hO : OwnI wr base v zs) (hn : zs.length = n) (hs : a.eval s = v)
    {H : Nat} (hH : wr.heap.size = H) (hx : a.eval xo = .slice (some ⟨H, 0, none⟩) 1 1) (hb : base ≤ wr.heap.size) (hsm : n ≤ 1000000) (hf : -9223372036854775808 ≤ x ∧ x ≤ 9223372036854775807)
    (h : ∀ g cap w', OwnI w' base (.slice (some ⟨g, 0, none⟩) (n + 1) cap) (zs ++ [x]) → wr.grownBy w' v.ownBlock → wpList Try.prog ops Q rest (a.put o.dst (.slice (some ⟨g, 0, none⟩) (n + 1) cap)) w') :
    wpList Try.prog ops Q (o :: rest) a (wr.alloc (Obj.cells #[.int .i64 x] 3)) := by
  subst hn
  subst hH
  obtain ⟨vs, hown, hvx⟩ := hO.own
  have hbA := bel1 (w := wr) (Obj.cells #[.int .i64 x] 3)
  have hownA := ownsRow_below hown hbA
  have hnews := World.news_of_block (heap_alloc_new wr (Obj.cells #[.int .i64 x] 3))
  obtain ⟨i0, hii, hz0, hz1, hz2⟩ := info_parts info_int1
  refine wpList_append_lies _ hgd s xo 25 ho base 3 i0 (.int .i64 0) 1 8 Try.underlying25 hii hz0 hz1 hz2 rfl (by decide) v zs.length vs hs hownA ⟨wr.heap.size, 0, none⟩ 1 1 [.int .i64 x] hx rfl hnews (by simp [Value.oneCell']) (by decide) (by unfold maxLen; omega) (by omega) (by simp; omega) _ rfl ?_
  intro g cap w' h1 h2 _ _
  exact h g cap w' (ownI_app h1 hown.1 hvx hO.fit hf) (grownBy_alloc_then h2)

end Go.Proofs.Ytfehfocfoegbdaa

namespace Go.Proofs.Ytfehfocfoegbdaa
open Go.RowKit

theorem step_app_elG {α : Type} [Inhabited α] {K : Nat} {cells : α → Nat → Value} {ops : Array Oper} {o : Oper} {a : Act} {L : Act → World → Prop} {Q : Exit → Act → World → Prop} {E : Prop} (hgd : o.guard = none) (s xo : Operand) (sT eT : TypeId)
    (ho : o.op = .call { callee := .builtin .append, args := #[s, xo], argTypes := #[sT, sT] }) (hU : Try.prog.underlying sT = some (.slice eT)) {z : Value} {bytes : Nat} (hI : (Try.prog.info? eT).map (fun i => (i.zero, i.size, i.bytes)) = some (some z, K, bytes)) (hz : z.cells.size = K) (hK : 0 < K) (hby : bytes ≤ 1000)
    {wr : World} {base n : Nat} {v : Value} {zs : List α} (x : α) (us : List Value) (hul : us.length = K) (hux : ∀ q, q < K → us[q]? = some (cells x q)) (hu1 : ∀ u ∈ us, u.oneCell' = true) (hO : OwnE K cells wr base eT v zs) (hn : zs.length = n) (hs : a.eval s = v)
    {H : Nat} (hH : wr.heap.size = H) (hx : a.eval xo = .slice (some ⟨H, 0, none⟩) 1 1) (hb : base ≤ wr.heap.size) (hsm : n ≤ 1000)
    (h : ∀ g cap w', OwnE K cells w' base eT (.slice (some ⟨g, 0, none⟩) (n + 1) cap) (zs ++ [x]) → wr.grownBy w' v.ownBlock → (v.ownBlock = some g ∨ wr.heap.size < g) → L (a.put o.dst (.slice (some ⟨g, 0, none⟩) (n + 1) cap)) w') :
    if Region.wanted o (yielded ops a.tmps) = true then Oper.wp Try.prog o a (wr.alloc (Obj.cells us.toArray eT)) L Q else E := by
  subst hn
  subst hH
  obtain ⟨vs, hown, hvx⟩ := hO.own
  have hbA := bel1 (w := wr) (Obj.cells us.toArray eT)
  have hownA := ownsRow_below hown hbA
  have hnews := World.news_of_block (heap_alloc_new wr (Obj.cells us.toArray eT))
  obtain ⟨i0, hii, hz0, hz1, hz2⟩ := info_parts hI
  have hm : (zs.length + 1) * bytes ≤ 1001 * 1000 := Nat.mul_le_mul (by omega) hby
  refine step_append_lies _ hgd s xo sT ho base eT i0 z K bytes hU hii hz0 hz1 hz2 hz hK v zs.length vs hs hownA ⟨wr.heap.size, 0, none⟩ 1 1 us hx (by rw [hul, Nat.one_mul]) (by simpa using hnews) hu1 (by decide) (by unfold maxLen; omega) (by omega) (by simp; omega) _ rfl ?_
  intro g cap w' h1 h2 h3 _
  refine h g cap w' (ownE_app h1 hown.1 hvx hux) (grownBy_alloc_then h2) ?_
  rcases h3 with h3 | h3
  · exact .inl h3
  · right; rw [h3]; simp

theorem step_app_elD {α : Type} [Inhabited α] {K : Nat} {cells : α → Nat → Value} {ops : Array Oper} {o : Oper} {a : Act} {L : Act → World → Prop} {Q : Exit → Act → World → Prop} {E : Prop} (hgd : o.guard = none) (s xo : Operand) (sT eT : TypeId)
    (ho : o.op = .call { callee := .builtin .append, args := #[s, xo], argTypes := #[sT, sT] }) (hU : Try.prog.underlying sT = some (.slice eT)) {z : Value} {bytes : Nat} (hI : (Try.prog.info? eT).map (fun i => (i.zero, i.size, i.bytes)) = some (some z, K, bytes)) (hz : z.cells.size = K) (hK : 0 < K) (hby : bytes ≤ 1000)
    {wr : World} {base n : Nat} {v : Value} {zs : List α} (x : α) (us : List Value) (hul : us.length = K) (hux : ∀ q, q < K → us[q]? = some (cells x q)) (hu1 : ∀ u ∈ us, u.oneCell' = true) (hO : OwnE K cells wr base eT v zs) (hn : zs.length = n) (hs : a.eval s = v)
    {H : Nat} (hH : wr.heap.size = H) (hx : a.eval xo = .slice (some ⟨H, 0, none⟩) 1 1) (hb : base ≤ wr.heap.size) (hsm : n ≤ 1000)
    (h : ∀ g cap w', OwnE K cells w' base eT (.slice (some ⟨g, 0, none⟩) (n + 1) cap) (zs ++ [x]) → wr.grownBy w' v.ownBlock → (v.ownBlock = some g ∨ wr.heap.size < g) → L (a.put o.dst (.slice (some ⟨g, 0, none⟩) (n + 1) cap)) w') :
    if Region.wanted o (yielded ops a.tmps) = true then Oper.wp Try.prog o a (wr.alloc (Obj.cells us.toArray eT)).drew L Q else E :=
  step_app_elG (wr := wr.drew) hgd s xo sT eT ho hU hI hz hK hby x us hul hux hu1 (hO.below (bel0d 1)) hn hs hH hx hb hsm (fun g cap w' h1 h2 h3 => h g cap w' h1 ⟨h2.os, h2.tape, h2.output, h2.size, h2.block⟩ h3)

theorem wpList_app_elG {α : Type} [Inhabited α] {K : Nat} {cells : α → Nat → Value} {ops : Array Oper} {rest : List Oper} {o : Oper} {a : Act} {Q : Exit → Act → World → Prop} (hgd : o.guard = none) (s xo : Operand) (sT eT : TypeId)
    (ho : o.op = .call { callee := .builtin .append, args := #[s, xo], argTypes := #[sT, sT] }) (hU : Try.prog.underlying sT = some (.slice eT)) {z : Value} {bytes : Nat} (hI : (Try.prog.info? eT).map (fun i => (i.zero, i.size, i.bytes)) = some (some z, K, bytes)) (hz : z.cells.size = K) (hK : 0 < K) (hby : bytes ≤ 1000)
    {wr : World} {base n : Nat} {v : Value} {zs : List α} (x : α) (us : List Value) (hul : us.length = K) (hux : ∀ q, q < K → us[q]? = some (cells x q)) (hu1 : ∀ u ∈ us, u.oneCell' = true) (hO : OwnE K cells wr base eT v zs) (hn : zs.length = n) (hs : a.eval s = v)
    {H : Nat} (hH : wr.heap.size = H) (hx : a.eval xo = .slice (some ⟨H, 0, none⟩) 1 1) (hb : base ≤ wr.heap.size) (hsm : n ≤ 1000)
    (h : ∀ g cap w', OwnE K cells w' base eT (.slice (some ⟨g, 0, none⟩) (n + 1) cap) (zs ++ [x]) → wr.grownBy w' v.ownBlock → (v.ownBlock = some g ∨ wr.heap.size < g) → wpList Try.prog ops Q rest (a.put o.dst (.slice (some ⟨g, 0, none⟩) (n + 1) cap)) w') :
    wpList Try.prog ops Q (o :: rest) a (wr.alloc (Obj.cells us.toArray eT)) := by
  subst hn
  subst hH
  obtain ⟨vs, hown, hvx⟩ := hO.own
  have hbA := bel1 (w := wr) (Obj.cells us.toArray eT)
  have hownA := ownsRow_below hown hbA
  have hnews := World.news_of_block (heap_alloc_new wr (Obj.cells us.toArray eT))
  obtain ⟨i0, hii, hz0, hz1, hz2⟩ := info_parts hI
  have hm : (zs.length + 1) * bytes ≤ 1001 * 1000 := Nat.mul_le_mul (by omega) hby
  refine wpList_append_lies _ hgd s xo sT ho base eT i0 z K bytes hU hii hz0 hz1 hz2 hz hK v zs.length vs hs hownA ⟨wr.heap.size, 0, none⟩ 1 1 us hx (by rw [hul, Nat.one_mul]) (by simpa using hnews) hu1 (by decide) (by unfold maxLen; omega) (by omega) (by simp; omega) _ rfl ?_
  intro g cap w' h1 h2 h3 _
  refine h g cap w' (ownE_app h1 hown.1 hvx hux) (grownBy_alloc_then h2) ?_
  rcases h3 with h3 | h3
  · exact .inl h3
  · right; rw [h3]; simp

end Go.Proofs.Ytfehfocfoegbdaa
