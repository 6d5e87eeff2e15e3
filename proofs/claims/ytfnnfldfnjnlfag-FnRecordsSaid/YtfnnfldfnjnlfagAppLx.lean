/-
  A list of whole numbers behind a list that a call has made, as laws for the walk: in a plain region and in one that draws its order. At lists of at most 4000000.
-/
import Derived.Test.YtfnnfldfnjnlfagAppI
namespace Go.Proofs.Ytfnnfldfnjnlfag
open Go.RowKit

theorem map_of_cells {xs : List Value} {zs : List Int} (hl : xs.length = zs.length) (hx : ∀ j, j < zs.length → xs[j]? = some (.int .i64 (nth zs j))) : xs = zs.map (Value.int .i64) := by
  apply List.ext_getElem?
  intro j
  by_cases hj : j < zs.length
  · rw [hx j hj]; simp [nth, hj]
  · rw [List.getElem?_eq_none (by omega), List.getElem?_eq_none (by simp; omega)]
theorem nth_appL (xs ys : List Int) (i : Nat) : nth (xs ++ ys) i = if i < xs.length then nth xs i else nth ys (i - xs.length) := by
  unfold nth
  by_cases h : i < xs.length
  · rw [if_pos h, List.getElem?_append_left h]
  · rw [if_neg h, List.getElem?_append_right (by omega)]
theorem ownI_of_map {w : World} {base : Nat} {v : Value} {zs : List Int} (h : w.ownsRow base 3 1 v zs.length (zs.map (Value.int .i64))) (hf : ∀ i : Nat, -9223372036854775808 ≤ nth zs i ∧ nth zs i ≤ 9223372036854775807) : OwnI w base v zs :=
  ⟨⟨_, h, fun j hj => by simp [nth, hj]⟩, hf⟩
theorem OwnI.map {w : World} {base : Nat} {v : Value} {zs : List Int} (h : OwnI w base v zs) : w.ownsRow base 3 1 v zs.length (zs.map (Value.int .i64)) := by
  obtain ⟨xs, hown, hx⟩ := h.own
  have hl : xs.length = zs.length := by simpa using hown.1
  obtain rfl := map_of_cells hl hx
  exact hown
theorem wp_app_ints {o : Oper} {a : Act} {K : Act → World → Prop} {Q : Exit → Act → World → Prop} {w : World} (s xo : Operand) (ho : o.op = .call { callee := .builtin .append, args := #[s, xo], argTypes := #[68, 68] })
    {base : Nat} {v : Value} {zs : List Int} (hO : OwnI w base v zs) (hs : a.eval s = v) (ad : Addr) (m c : Nat) (ys : List Int) (hx : a.eval xo = .slice (some ad) m c) (hy : ys.length = m)
    (hc : ∀ j, j < m → w.cell? (ad.add j) = some (.int .i64 (nth ys j))) (hfy : ∀ i : Nat, -9223372036854775808 ≤ nth ys i ∧ nth ys i ≤ 9223372036854775807) (hsm : zs.length + m ≤ 4000000) (hb : base ≤ w.heap.size)
    (h : ∀ v' w', OwnI w' base v' (zs ++ ys) → w.grownBy w' v.ownBlock → (v' = .slice none 0 0 → v = .slice none 0 0) → K (a.put o.dst v') w') : Oper.wp Try.prog o a w K Q := by
  subst hy
  obtain ⟨i0, hii, hz0, hz1, hz2⟩ := info_parts info_int1
  refine wp_append_own w s xo 68 ho base 3 i0 (.int .i64 0) 1 8 Try.underlying68 hii hz0 hz1 hz2 rfl (by decide) v zs.length _ hs hO.map ad ys.length c (ys.map (Value.int .i64)) hx (by simp) (fun j u hj => ?_) (fun u hu => ?_) (by unfold maxLen; omega) (by omega) hb ?_
  · have hj' : j < ys.length := by
      rcases Nat.lt_or_ge j ys.length with h | h
      · exact h
      · rw [List.getElem?_eq_none (by simpa using h)] at hj; cases hj
    rw [hc j hj', ← hj]; simp [nth, hj']
  · obtain ⟨x, _, rfl⟩ := List.mem_map.1 hu; rfl
  · intro v' w' h1 h2 h3
    refine h v' w' (ownI_of_map ?_ (fun i => ?_)) h2 (fun e => (h3.1 e).1)
    · simpa using h1
    · rw [nth_appL]; split
      · exact hO.fit i
      · exact hfy _
theorem wpList_app_ints {ops : Array Oper} {rest : List Oper} {o : Oper} {a : Act} {Q : Exit → Act → World → Prop} {w : World} (hgd : o.guard = none) (s xo : Operand) (ho : o.op = .call { callee := .builtin .append, args := #[s, xo], argTypes := #[68, 68] })
    {base : Nat} {v : Value} {zs : List Int} (hO : OwnI w base v zs) (hs : a.eval s = v) (ad : Addr) (m c : Nat) (ys : List Int) (hx : a.eval xo = .slice (some ad) m c) (hy : ys.length = m)
    (hc : ∀ j, j < m → w.cell? (ad.add j) = some (.int .i64 (nth ys j))) (hfy : ∀ i : Nat, -9223372036854775808 ≤ nth ys i ∧ nth ys i ≤ 9223372036854775807) (hsm : zs.length + m ≤ 4000000) (hb : base ≤ w.heap.size)
    (h : ∀ v' w', OwnI w' base v' (zs ++ ys) → w.grownBy w' v.ownBlock → (v' = .slice none 0 0 → v = .slice none 0 0) → wpList Try.prog ops Q rest (a.put o.dst v') w') : wpList Try.prog ops Q (o :: rest) a w :=
  wpList_plain hgd fun _ hK => wp_app_ints s xo ho hO hs ad m c ys hx hy hc hfy hsm hb fun v' w' h1 h2 h3 => hK _ _ (h v' w' h1 h2 h3)
theorem step_app_ints {ops : Array Oper} {o : Oper} {a : Act} {K : Act → World → Prop} {Q : Exit → Act → World → Prop} {E : Prop} {w : World} (hgd : o.guard = none) (s xo : Operand) (ho : o.op = .call { callee := .builtin .append, args := #[s, xo], argTypes := #[68, 68] })
    {base : Nat} {v : Value} {zs : List Int} (hO : OwnI w base v zs) (hs : a.eval s = v) (ad : Addr) (m c : Nat) (ys : List Int) (hx : a.eval xo = .slice (some ad) m c) (hy : ys.length = m)
    (hc : ∀ j, j < m → w.cell? (ad.add j) = some (.int .i64 (nth ys j))) (hfy : ∀ i : Nat, -9223372036854775808 ≤ nth ys i ∧ nth ys i ≤ 9223372036854775807) (hsm : zs.length + m ≤ 4000000) (hb : base ≤ w.heap.size)
    (h : ∀ v' w', OwnI w' base v' (zs ++ ys) → w.grownBy w' v.ownBlock → (v' = .slice none 0 0 → v = .slice none 0 0) → K (a.put o.dst v') w') : if Region.wanted o (yielded ops a.tmps) = true then Oper.wp Try.prog o a w K Q else E := by
  have hw : Region.wanted o (yielded ops a.tmps) = true := by simp [Region.wanted, hgd]
  rw [if_pos hw]
  exact wp_app_ints s xo ho hO hs ad m c ys hx hy hc hfy hsm hb h

end Go.Proofs.Ytfnnfldfnjnlfag
