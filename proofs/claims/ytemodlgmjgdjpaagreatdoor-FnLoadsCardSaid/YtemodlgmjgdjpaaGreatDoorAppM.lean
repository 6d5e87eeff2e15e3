/-
  A list, nil or not, behind a list that a call has made: elements of several cells, as a law for the walk. At lists of at most 1100000 together.
-/
import Derived.Test.YtemodlgmjgdjpaaGreatDoorMOnly
import Derived.Lib.AppendZeros
namespace Go.Proofs.YtemodlgmjgdjpaaGreatDoor
open Go.RowKit

theorem run_append_any_none {P : Program} {w : World} (base : Nat) (t ty e : TypeId) (i : TypeInfo) (size c : Nat) (ht : P.underlying t = some (.slice e)) (hi : P.info? e = some i)
    (v : Value) (n : Nat) (xs : List Value) (hown : w.ownsRow base e size v n xs) :
    (Builtin.append_ #[t, t] ty #[v, .slice none 0 c]).run P w = .ok v w := by
  rcases hown.2 with ⟨rfl, rfl⟩ | ⟨g, cap, cur, rfl, _, _, hnc, _⟩
  · simp [Builtin.append_, run_underlying ht, sizeOf, typeInfo, hi, Builtin.lenOf, Builtin.firstCells]
  · simp [Builtin.append_, run_underlying ht, sizeOf, typeInfo, hi, Builtin.lenOf, Builtin.firstCells, hnc, storeCells]
section
variable {α : Type} [Inhabited α] {K : Nat} {cells : α → Nat → Value}
theorem RowE.nil_src {w : World} {m : Nat} {ys : List α} (h : RowE K cells w none m ys) : m = 0 ∧ ys = [] := by
  have h0 : m = 0 := by
    rcases Nat.eq_zero_or_pos m with h0 | h0
    · exact h0
    · obtain ⟨b, off, e, _⟩ := h.at_ 0 h0
      cases e
  exact ⟨h0, List.length_eq_zero_iff.1 (by rw [h.len_eq, h0])⟩
theorem wpList_app_elsM {ops : Array Oper} {rest : List Oper} {o : Oper} {a : Act} {Q : Exit → Act → World → Prop} {w : World} (hwn : Region.wanted o (yielded ops a.tmps) = true) (s xo : Operand) (sT eT : TypeId) (ho : o.op = .call { callee := .builtin .append, args := #[s, xo], argTypes := #[sT, sT] })
    (hU : Tryz.prog.underlying sT = some (.slice eT)) {z : Value} {bytes : Nat} (hI : (Tryz.prog.info? eT).map (fun i => (i.zero, i.size, i.bytes)) = some (some z, K, bytes)) (hz : z.cells.size = K) (hK : 0 < K) (hby : bytes ≤ 1000) (h1c : ∀ x q, (cells x q).oneCell' = true)
    {base : Nat} {v : Value} {zs : List α} (hO : OwnE K cells w base eT v zs) (hs : a.eval s = v) (ad : Option Addr) (m c : Nat) (ys : List α) (hx : a.eval xo = .slice ad m c) (hy : RowE K cells w ad m ys) (hm : zs.length + m ≤ 1100000) (hb : base ≤ w.heap.size)
    (h : ∀ v' w', OwnE K cells w' base eT v' (zs ++ ys) → w.grownBy w' v.ownBlock → (v' = .slice none 0 0 → v = .slice none 0 0) → wpList Tryz.prog ops Q rest (a.put o.dst v') w') : wpList Tryz.prog ops Q (o :: rest) a w := by
  refine wpList_step fun _ hK' => ?_
  rw [if_pos hwn]
  obtain ⟨i0, hii, hz0, hz1, hz2⟩ := info_parts hI
  cases ad with
  | none =>
    obtain ⟨rfl, rfl⟩ := hy.nil_src
    obtain ⟨vs, hown, hvx⟩ := hO.own
    refine Lib.wp_append_run w s xo sT sT ho v (.slice none 0 c) hs hx v w (run_append_any_none base sT _ eT i0 K c hU hii v zs.length vs hown) ?_
    exact hK' _ _ (h v w (by rw [List.append_nil]; exact hO) ⟨rfl, rfl, rfl, Nat.le_refl _, fun _ _ _ => rfl⟩ id)
  | some x =>
    obtain ⟨vs, hown, hvx⟩ := hO.own
    have hlen := hy.len_eq
    have hmul : (zs.length + m) * bytes ≤ 1100000 * 1000 := Nat.mul_le_mul hm hby
    refine wp_append_own w s xo sT ho base eT i0 z K bytes hU hii hz0 hz1 hz2 hz hK v zs.length vs hs hown x m c (flatE K cells ys) hx (by rw [flatE_len, hlen]) (fun j u hj => ?_) (fun u hu => ?_) (by unfold maxLen; omega) (by omega) hb ?_
    · have hj' : j < ys.length * K := by
        rcases Nat.lt_or_ge j (ys.length * K) with h | h
        · exact h
        · rw [List.getElem?_eq_none (by rw [flatE_len]; exact h)] at hj; cases hj
      rw [flatE_at hj'] at hj
      have hd : j / K < m := by rw [← hlen]; exact Nat.div_lt_of_lt_mul (by rw [Nat.mul_comm]; exact hj')
      obtain ⟨b', off', e, hc⟩ := hy.at_ (j / K) hd
      simp only [Option.some.injEq] at e
      subst e
      have e : off' + j = off' + j / K * K + j % K := by rw [Nat.add_assoc, Nat.div_add_mod']
      rw [addr_addR, e, ← hj]; exact hc (j % K) (Nat.mod_lt _ hK)
    · obtain ⟨p, _, rfl⟩ := List.mem_map.1 hu; exact h1c _ _
    · intro v' w' h1 h2 h3
      exact hK' _ _ (h v' w' (ownE_apps hK (by rw [hlen]; exact h1) hown.1 hvx) h2 (fun e => (h3.1 e).1))
end

end Go.Proofs.YtemodlgmjgdjpaaGreatDoor
