/-
  A list of whole numbers behind a list that a call has made, as laws for the walk: in a plain region and in one that draws its order. At lists of at most 4000000.
-/
import Derived.Test.YtlpomplldgmkmbaAppI
import Derived.Test.YtlpomplldgmkmbaSortI
namespace Go.Proofs.Ytlpomplldgmkmba
open Go.RowKit

theorem nth_appL (xs ys : List Int) (i : Nat) : nth (xs ++ ys) i = if i < xs.length then nth xs i else nth ys (i - xs.length) := by
  unfold nth
  by_cases h : i < xs.length
  · rw [if_pos h, List.getElem?_append_left h]
  · rw [if_neg h, List.getElem?_append_right (by omega)]
theorem ownI_of_map {w : World} {base : Nat} {v : Value} {zs : List Int} (h : w.ownsRow base 3 1 v zs.length (zs.map (Value.int .i64))) (hf : ∀ i : Nat, -9223372036854775808 ≤ nth zs i ∧ nth zs i ≤ 9223372036854775807) : OwnI w base v zs :=
  ⟨⟨_, h, fun j hj => by simp [nth, hj]⟩, hf⟩
theorem OwnI.map {w : World} {base : Nat} {v : Value} {zs : List Int} (h : OwnI w base v zs) : w.ownsRow base 3 1 v zs.length (zs.map (Value.int .i64)) := by
  obtain ⟨xs, hown, hx⟩ := h.own
  have hl : xs.length = zs.length := by simpa using hown.1
  obtain rfl := map_of_cells hl hx
  exact hown
theorem wp_app_ints {o : Oper} {a : Act} {K : Act → World → Prop} {Q : Exit → Act → World → Prop} {w : World} (s xo : Operand) (ho : o.op = .call { callee := .builtin .append, args := #[s, xo], argTypes := #[85, 85] })
    {base : Nat} {v : Value} {zs : List Int} (hO : OwnI w base v zs) (hs : a.eval s = v) (ad : Addr) (m c : Nat) (ys : List Int) (hx : a.eval xo = .slice (some ad) m c) (hy : ys.length = m)
    (hc : ∀ j, j < m → w.cell? (ad.add j) = some (.int .i64 (nth ys j))) (hfy : ∀ i : Nat, -9223372036854775808 ≤ nth ys i ∧ nth ys i ≤ 9223372036854775807) (hsm : zs.length + m ≤ 4000000) (hb : base ≤ w.heap.size)
    (h : ∀ v' w', OwnI w' base v' (zs ++ ys) → w.grownBy w' v.ownBlock → (v' = .slice none 0 0 → v = .slice none 0 0) → K (a.put o.dst v') w') : Oper.wp Try.prog o a w K Q := by
  subst hy
  obtain ⟨i0, hii, hz0, hz1, hz2⟩ := info_parts info_int1
  refine wp_append_own w s xo 85 ho base 3 i0 (.int .i64 0) 1 8 Try.underlying85 hii hz0 hz1 hz2 rfl (by decide) v zs.length _ hs hO.map ad ys.length c (ys.map (Value.int .i64)) hx (by simp) (fun j u hj => ?_) (fun u hu => ?_) (by unfold maxLen; omega) (by omega) hb ?_
  · have hj' : j < ys.length := by
      rcases Nat.lt_or_ge j ys.length with h | h
      · exact h
      · rw [List.getElem?_eq_none (by simpa using h)] at hj; cases hj
    rw [hc j hj', ← hj]; simp [nth, hj']
  · obtain ⟨x, _, rfl⟩ := List.mem_map.1 hu; rfl
  · intro v' w' h1 h2 h3
    refine h v' w' (ownI_of_map ?_ (fun i => ?_)) h2 (fun e => (h3.1 e).1)
    · simpa using h1
    · rw [nth_appL]; split
      · exact hO.fit i
      · exact hfy _
theorem wpList_app_ints {ops : Array Oper} {rest : List Oper} {o : Oper} {a : Act} {Q : Exit → Act → World → Prop} {w : World} (hgd : o.guard = none) (s xo : Operand) (ho : o.op = .call { callee := .builtin .append, args := #[s, xo], argTypes := #[85, 85] })
    {base : Nat} {v : Value} {zs : List Int} (hO : OwnI w base v zs) (hs : a.eval s = v) (ad : Addr) (m c : Nat) (ys : List Int) (hx : a.eval xo = .slice (some ad) m c) (hy : ys.length = m)
    (hc : ∀ j, j < m → w.cell? (ad.add j) = some (.int .i64 (nth ys j))) (hfy : ∀ i : Nat, -9223372036854775808 ≤ nth ys i ∧ nth ys i ≤ 9223372036854775807) (hsm : zs.length + m ≤ 4000000) (hb : base ≤ w.heap.size)
    (h : ∀ v' w', OwnI w' base v' (zs ++ ys) → w.grownBy w' v.ownBlock → (v' = .slice none 0 0 → v = .slice none 0 0) → wpList Try.prog ops Q rest (a.put o.dst v') w') : wpList Try.prog ops Q (o :: rest) a w :=
  wpList_plain hgd fun _ hK => wp_app_ints s xo ho hO hs ad m c ys hx hy hc hfy hsm hb fun v' w' h1 h2 h3 => hK _ _ (h v' w' h1 h2 h3)
theorem step_app_ints {ops : Array Oper} {o : Oper} {a : Act} {K : Act → World → Prop} {Q : Exit → Act → World → Prop} {E : Prop} {w : World} (hgd : o.guard = none) (s xo : Operand) (ho : o.op = .call { callee := .builtin .append, args := #[s, xo], argTypes := #[85, 85] })
    {base : Nat} {v : Value} {zs : List Int} (hO : OwnI w base v zs) (hs : a.eval s = v) (ad : Addr) (m c : Nat) (ys : List Int) (hx : a.eval xo = .slice (some ad) m c) (hy : ys.length = m)
    (hc : ∀ j, j < m → w.cell? (ad.add j) = some (.int .i64 (nth ys j))) (hfy : ∀ i : Nat, -9223372036854775808 ≤ nth ys i ∧ nth ys i ≤ 9223372036854775807) (hsm : zs.length + m ≤ 4000000) (hb : base ≤ w.heap.size)
    (h : ∀ v' w', OwnI w' base v' (zs ++ ys) → w.grownBy w' v.ownBlock → (v' = .slice none 0 0 → v = .slice none 0 0) → K (a.put o.dst v') w') : if Region.wanted o (yielded ops a.tmps) = true then Oper.wp Try.prog o a w K Q else E := by
  have hw : Region.wanted o (yielded ops a.tmps) = true := by simp [Region.wanted, hgd]
  rw [if_pos hw]
  exact wp_app_ints s xo ho hO hs ad m c ys hx hy hc hfy hsm hb h
/-- One number in a new slice. -/
theorem ownI_one {w : World} {base : Nat} (x : Int) (h : base ≤ w.heap.size) (hf : -9223372036854775808 ≤ x ∧ x ≤ 9223372036854775807) : OwnI (w.alloc (Obj.cells #[.int .i64 x] 3)) base (.slice (some ⟨w.heap.size, 0, none⟩) 1 1) [x] := by
  refine ownI_of_map ?_ (fun i => ?_)
  · exact World.ownsRow_lit w _ 1 h (by unfold maxLen; omega) rfl
  · rcases Nat.eq_zero_or_pos i with rfl | hi
    · exact hf
    · rw [nth_out (by simp; omega)]; omega
/-- One more, put in at its place, keeps the order. -/
theorem ins_srt {H hs : List Int} {x : Int} {K : Nat} (e : H = srt hs) (hK : K ≤ H.length) (h1 : ∀ j, j < K → nth H j < x) (h2 : K < H.length → x ≤ nth H K) : H.take K ++ ([x] ++ H.drop K) = srt (hs ++ [x]) := by
  have hp : (H.take K ++ ([x] ++ H.drop K)).Perm (hs ++ [x]) := by
    have p1 : (H.take K ++ ([x] ++ H.drop K)).Perm ([x] ++ (H.take K ++ H.drop K)) := by
      simpa using (List.perm_middle (a := x) (l₁ := H.take K) (l₂ := H.drop K))
    rw [List.take_append_drop] at p1
    have p2 : H.Perm hs := by rw [e]; exact srt_perm hs
    exact p1.trans ((List.perm_append_comm).trans (p2.append_right [x]))
  have hS : H.Pairwise (fun x y => x ≤ y) := by rw [e]; exact srt_sorted hs
  refine srt_same hp ?_
  have hS2 := hS
  rw [← List.take_append_drop K H, List.pairwise_append] at hS2
  obtain ⟨s1, s2, s3⟩ := hS2
  have lo : ∀ y ∈ H.take K, y ≤ x := fun y hy => by
    obtain ⟨j, hj, rfl⟩ := List.getElem_of_mem hy
    have hj' : j < K := by simp at hj; omega
    have := h1 j hj'
    have e2 : (H.take K)[j] = nth H j := by simp [nth, show j < H.length by omega]
    omega
  have hi : ∀ y ∈ H.drop K, x ≤ y := fun y hy => by
    have hKl : K < H.length := by
      rcases Nat.lt_or_ge K H.length with h | h
      · exact h
      · rw [List.drop_eq_nil_of_le h] at hy; cases hy
    have hd : H.drop K = nth H K :: H.drop (K + 1) := by
      rw [List.drop_eq_getElem_cons hKl]; simp [nth, hKl]
    rw [hd] at hy s2
    rcases List.mem_cons.1 hy with rfl | hy
    · exact h2 hKl
    · have := (List.pairwise_cons.1 s2).1 y hy
      have := h2 hKl
      omega
  rw [List.pairwise_append]
  refine ⟨s1, ?_, fun a ha b hb => ?_⟩
  · rw [List.singleton_append, List.pairwise_cons]; exact ⟨hi, s2⟩
  · rw [List.singleton_append] at hb
    rcases List.mem_cons.1 hb with rfl | hb
    · exact lo a ha
    · exact s3 a ha b hb

end Go.Proofs.Ytlpomplldgmkmba
