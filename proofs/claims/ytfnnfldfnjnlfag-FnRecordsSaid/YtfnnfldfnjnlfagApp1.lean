/-
  A list behind a list that a call has made: elements of several cells, as a law for the walk. At lists of at most 1000 together, the second not nil.
  A list, nil or not, behind a list that a call has made: elements of several cells, as a law for the walk. At lists of at most 1100000 together.
  The law's size, copy and comparison of a list of bytes, and its marks. The copy at lists of at most 1048576; nothing that was there is written, the marks only into the list's own memory.
  A list of bytes behind a list of bytes that a call has made, and where the answer lies. At lists of at most four million together.
-/
import Derived.Test.YtfnnfldfnjnlfagChecked
import Derived.Test.YtfnnfldfnjnlfagRowE
import Derived.Laws.AppendOwn
import Derived.Laws.OwnMore
import Derived.Lib.AppendZeros
import Derived.Test.YtfnnfldfnjnlfagSmall
import Derived.Deep.DrawnRows
import Derived.Deep.RegionHeld3
import Derived.Deep.AppendLies
import Derived.Deep.Upon

namespace Go.Proofs.Ytfnnfldfnjnlfag
open Go.RowKit

theorem addr_addR (g o j : Nat) : (⟨g, o, none⟩ : Addr).add j = ⟨g, o + j, none⟩ := by unfold Addr.add; split <;> simp_all
section
variable {α : Type} [Inhabited α] {K : Nat} {cells : α → Nat → Value}

/-- The cells of a list. -/
def flatE (K : Nat) (cells : α → Nat → Value) (ps : List α) : List Value := (List.range (ps.length * K)).map fun p => cells (elAt ps (p / K)) (p % K)
theorem flatE_len (ps : List α) : (flatE K cells ps).length = ps.length * K := by simp [flatE]
theorem flatE_at {ps : List α} {p : Nat} (hp : p < ps.length * K) : (flatE K cells ps)[p]? = some (cells (elAt ps (p / K)) (p % K)) := by simp [flatE, hp]
theorem elAt_right (xs ys : List α) (j : Nat) : elAt (xs ++ ys) (xs.length + j) = elAt ys j := by
  unfold elAt; rw [List.getElem?_append_right (by omega)]; congr 2; omega
theorem elAt_left {xs ys : List α} {j : Nat} (h : j < xs.length) : elAt (xs ++ ys) j = elAt xs j := by
  unfold elAt; rw [List.getElem?_append_left h]
theorem ownE_apps {w : World} {base : Nat} {T : TypeId} {v : Value} {xs ys : List α} {vs : List Value} (hK : 0 < K) (h : w.ownsRow base T K v (xs.length + ys.length) (vs ++ flatE K cells ys)) (hl : vs.length = xs.length * K)
    (hx : ∀ j, j < xs.length → ∀ q, q < K → vs[j * K + q]? = some (cells (elAt xs j) q)) : OwnE K cells w base T v (xs ++ ys) := by
  refine ⟨⟨_, by rw [List.length_append]; exact h, fun j hj q hq => ?_⟩⟩
  rw [List.length_append] at hj
  by_cases e : j < xs.length
  · rw [elAt_left e, List.getElem?_append_left (by rw [hl]; exact in_row e hq)]
    exact hx j e q hq
  · obtain ⟨i, rfl⟩ : ∃ i, j = xs.length + i := ⟨j - xs.length, by omega⟩
    have hi : i < ys.length := by omega
    have e1 : (xs.length + i) * K + q = vs.length + (i * K + q) := by rw [hl, Nat.add_mul]; omega
    rw [e1, List.getElem?_append_right (by omega), elAt_right, show vs.length + (i * K + q) - vs.length = i * K + q by omega, flatE_at (in_row hi hq)]
    have e2 : (i * K + q) / K = i := by rw [Nat.add_comm, Nat.add_mul_div_right _ _ hK, Nat.div_eq_of_lt hq, Nat.zero_add]
    have e3 : (i * K + q) % K = q := by rw [Nat.add_comm, Nat.add_mul_mod_self_right, Nat.mod_eq_of_lt hq]
    rw [e2, e3]
theorem wpList_app_els {ops : Array Oper} {rest : List Oper} {o : Oper} {a : Act} {Q : Exit → Act → World → Prop} {w : World} (hwn : Region.wanted o (yielded ops a.tmps) = true) (s xo : Operand) (sT eT : TypeId) (ho : o.op = .call { callee := .builtin .append, args := #[s, xo], argTypes := #[sT, sT] })
    (hU : Try.prog.underlying sT = some (.slice eT)) {z : Value} {bytes : Nat} (hI : (Try.prog.info? eT).map (fun i => (i.zero, i.size, i.bytes)) = some (some z, K, bytes)) (hz : z.cells.size = K) (hK : 0 < K) (hby : bytes ≤ 1000) (h1c : ∀ x q, (cells x q).oneCell' = true)
    {base : Nat} {v : Value} {zs : List α} (hO : OwnE K cells w base eT v zs) (hs : a.eval s = v) (g off m c : Nat) (ys : List α) (hx : a.eval xo = .slice (some ⟨g, off, none⟩) m c) (hy : RowE K cells w (some ⟨g, off, none⟩) m ys) (hm : zs.length + m ≤ 1000) (hb : base ≤ w.heap.size)
    (h : ∀ v' w', OwnE K cells w' base eT v' (zs ++ ys) → w.grownBy w' v.ownBlock → (v' = .slice none 0 0 → v = .slice none 0 0) → wpList Try.prog ops Q rest (a.put o.dst v') w') : wpList Try.prog ops Q (o :: rest) a w := by
  refine wpList_step fun _ hK' => ?_
  rw [if_pos hwn]
  obtain ⟨i0, hii, hz0, hz1, hz2⟩ := info_parts hI
  obtain ⟨vs, hown, hvx⟩ := hO.own
  have hlen := hy.len_eq
  have hmul : (zs.length + m) * bytes ≤ 1000 * 1000 := Nat.mul_le_mul hm hby
  refine wp_append_own w s xo sT ho base eT i0 z K bytes hU hii hz0 hz1 hz2 hz hK v zs.length vs hs hown ⟨g, off, none⟩ m c (flatE K cells ys) hx (by rw [flatE_len, hlen]) (fun j u hj => ?_) (fun u hu => ?_) (by unfold maxLen; omega) (by omega) hb ?_
  · have hj' : j < ys.length * K := by
      rcases Nat.lt_or_ge j (ys.length * K) with h | h
      · exact h
      · rw [List.getElem?_eq_none (by rw [flatE_len]; exact h)] at hj; cases hj
    rw [flatE_at hj'] at hj
    have hd : j / K < m := by rw [← hlen]; exact Nat.div_lt_of_lt_mul (by rw [Nat.mul_comm]; exact hj')
    obtain ⟨b', off', e, hc⟩ := hy.at_ (j / K) hd
    simp only [Option.some.injEq, Addr.mk.injEq, and_true] at e
    obtain ⟨rfl, rfl⟩ := e
    have e : off + j = off + j / K * K + j % K := by rw [Nat.add_assoc, Nat.div_add_mod']
    rw [addr_addR, e, ← hj]; exact hc (j % K) (Nat.mod_lt _ hK)
  · obtain ⟨p, _, rfl⟩ := List.mem_map.1 hu; exact h1c _ _
  · intro v' w' h1 h2 h3
    exact hK' _ _ (h v' w' (ownE_apps hK (by rw [hlen]; exact h1) hown.1 hvx) h2 (fun e => (h3.1 e).1))
theorem ownE_one {w : World} {base : Nat} {T : TypeId} {x : α} (us : List Value) (hul : us.length = K) (hux : ∀ q, q < K → us[q]? = some (cells x q)) (h : base ≤ w.heap.size) : OwnE K cells (w.alloc (Obj.cells us.toArray T)) base T (.slice (some ⟨w.heap.size, 0, none⟩) 1 1) [x] := by
  refine ⟨⟨us, ?_, fun j hj q hq => ?_⟩⟩
  · have := World.ownsRow_lit (base := base) (e := T) (size := K) w us.toArray 1 h (by unfold maxLen; omega) (by simp [hul])
    simpa using this
  · obtain rfl : j = 0 := by simp at hj; omega
    rw [Nat.zero_mul, Nat.zero_add]; exact hux q hq

end

end Go.Proofs.Ytfnnfldfnjnlfag

namespace Go.Proofs.Ytfnnfldfnjnlfag
open Go.RowKit

theorem run_append_any_none {P : Program} {w : World} (base : Nat) (t ty e : TypeId) (i : TypeInfo) (size c : Nat) (ht : P.underlying t = some (.slice e)) (hi : P.info? e = some i)
    (v : Value) (n : Nat) (xs : List Value) (hown : w.ownsRow base e size v n xs) :
    (Builtin.append_ #[t, t] ty #[v, .slice none 0 c]).run P w = .ok v w := by
  rcases hown.2 with ⟨rfl, rfl⟩ | ⟨g, cap, cur, rfl, _, _, hnc, _⟩
  · simp [Builtin.append_, run_underlying ht, sizeOf, typeInfo, hi, Builtin.lenOf, Builtin.firstCells]
  · simp [Builtin.append_, run_underlying ht, sizeOf, typeInfo, hi, Builtin.lenOf, Builtin.firstCells, hnc, storeCells]
section
variable {α : Type} [Inhabited α] {K : Nat} {cells : α → Nat → Value}
theorem RowE.nil_src {w : World} {m : Nat} {ys : List α} (h : RowE K cells w none m ys) : m = 0 ∧ ys = [] := by
  have h0 : m = 0 := by
    rcases Nat.eq_zero_or_pos m with h0 | h0
    · exact h0
    · obtain ⟨b, off, e, _⟩ := h.at_ 0 h0
      cases e
  exact ⟨h0, List.length_eq_zero_iff.1 (by rw [h.len_eq, h0])⟩
theorem wpList_app_elsM {ops : Array Oper} {rest : List Oper} {o : Oper} {a : Act} {Q : Exit → Act → World → Prop} {w : World} (hwn : Region.wanted o (yielded ops a.tmps) = true) (s xo : Operand) (sT eT : TypeId) (ho : o.op = .call { callee := .builtin .append, args := #[s, xo], argTypes := #[sT, sT] })
    (hU : Try.prog.underlying sT = some (.slice eT)) {z : Value} {bytes : Nat} (hI : (Try.prog.info? eT).map (fun i => (i.zero, i.size, i.bytes)) = some (some z, K, bytes)) (hz : z.cells.size = K) (hK : 0 < K) (hby : bytes ≤ 1000) (h1c : ∀ x q, (cells x q).oneCell' = true)
    {base : Nat} {v : Value} {zs : List α} (hO : OwnE K cells w base eT v zs) (hs : a.eval s = v) (ad : Option Addr) (m c : Nat) (ys : List α) (hx : a.eval xo = .slice ad m c) (hy : RowE K cells w ad m ys) (hm : zs.length + m ≤ 1100000) (hb : base ≤ w.heap.size)
    (h : ∀ v' w', OwnE K cells w' base eT v' (zs ++ ys) → w.grownBy w' v.ownBlock → (v' = .slice none 0 0 → v = .slice none 0 0) → wpList Try.prog ops Q rest (a.put o.dst v') w') : wpList Try.prog ops Q (o :: rest) a w := by
  refine wpList_step fun _ hK' => ?_
  rw [if_pos hwn]
  obtain ⟨i0, hii, hz0, hz1, hz2⟩ := info_parts hI
  cases ad with
  | none =>
    obtain ⟨rfl, rfl⟩ := hy.nil_src
    obtain ⟨vs, hown, hvx⟩ := hO.own
    refine Lib.wp_append_run w s xo sT sT ho v (.slice none 0 c) hs hx v w (run_append_any_none base sT _ eT i0 K c hU hii v zs.length vs hown) ?_
    exact hK' _ _ (h v w (by rw [List.append_nil]; exact hO) ⟨rfl, rfl, rfl, Nat.le_refl _, fun _ _ _ => rfl⟩ id)
  | some x =>
    obtain ⟨vs, hown, hvx⟩ := hO.own
    have hlen := hy.len_eq
    have hmul : (zs.length + m) * bytes ≤ 1100000 * 1000 := Nat.mul_le_mul hm hby
    refine wp_append_own w s xo sT ho base eT i0 z K bytes hU hii hz0 hz1 hz2 hz hK v zs.length vs hs hown x m c (flatE K cells ys) hx (by rw [flatE_len, hlen]) (fun j u hj => ?_) (fun u hu => ?_) (by unfold maxLen; omega) (by omega) hb ?_
    · have hj' : j < ys.length * K := by
        rcases Nat.lt_or_ge j (ys.length * K) with h | h
        · exact h
        · rw [List.getElem?_eq_none (by rw [flatE_len]; exact h)] at hj; cases hj
      rw [flatE_at hj'] at hj
      have hd : j / K < m := by rw [← hlen]; exact Nat.div_lt_of_lt_mul (by rw [Nat.mul_comm]; exact hj')
      obtain ⟨b', off', e, hc⟩ := hy.at_ (j / K) hd
      simp only [Option.some.injEq] at e
      subst e
      have e : off' + j = off' + j / K * K + j % K := by rw [Nat.add_assoc, Nat.div_add_mod']
      rw [addr_addR, e, ← hj]; exact hc (j % K) (Nat.mod_lt _ hK)
    · obtain ⟨p, _, rfl⟩ := List.mem_map.1 hu; exact h1c _ _
    · intro v' w' h1 h2 h3
      exact hK' _ _ (h v' w' (ownE_apps hK (by rw [hlen]; exact h1) hown.1 hvx) h2 (fun e => (h3.1 e).1))
end

end Go.Proofs.Ytfnnfldfnjnlfag

namespace Go.Proofs.Ytfnnfldfnjnlfag
open Go.RowKit
attribute [local go_sem ↓] Go.wp_at_zero Go.wp_at_succ

/-- A byte's one cell. -/
def byC (x : Int) : Nat → Value | _ => .int .u8 x

theorem infoBy : (Try.prog.info? 5).map (fun i => (i.zero, i.size, i.bytes)) = some (some (.int .u8 0), 1, 1) := by kernel_rfl



/-- The mark of a place. -/
def markY (k : Int) : Int := IntKind.u8.wrap k
/-- After n rounds of the marking. -/
def markBy (ps : List Int) (k : Int) : Nat → List Int
  | 0 => ps
  | n + 1 => (markBy ps k n).set n (markY (k + n))
theorem markBy_len (ps : List Int) (k : Int) (n : Nat) : (markBy ps k n).length = ps.length := by
  induction n with
  | zero => rfl
  | succ n ih => simp [markBy, ih]
theorem markBy_at (ps : List Int) (k : Int) : ∀ n, n ≤ ps.length → ∀ i, i < n → elAt (markBy ps k n) i = markY (k + i) := by
  intro n
  induction n with
  | zero => intro _ i hi; omega
  | succ n ih =>
    intro hn i hi
    have hl : n < (markBy ps k n).length := by rw [markBy_len]; omega
    show elAt ((markBy ps k n).set n (markY (k + n))) i = _
    rw [elAt_set _ _ _ _ hl]
    by_cases e : i = n
    · subst e; simp
    · rw [if_neg e]; exact ih (by omega) i (by omega)



end Go.Proofs.Ytfnnfldfnjnlfag

namespace Go.Proofs.Ytfnnfldfnjnlfag
open Go.RowKit

theorem info_by3 : (Try.prog.info? 5).map (fun i => (i.zero, i.size, i.bytes)) = some (some (.int .u8 0), 1, 1) := by kernel_rfl
theorem src_noneB {tx e' : TypeId} (hk : Try.prog.underlying tx = some (.slice e')) (xa : Option Addr) (c : Nat) (w : World) : Src Try.prog 1 tx (.slice xa 0 c) 0 [] w := by
  refine ⟨.inl ⟨e', hk⟩, fun w' => ?_, ?_, ?_, rfl, fun u hu => by cases hu⟩
  · simp [Builtin.lenOf]
  · cases xa <;> simp [Builtin.firstCells, loadCells, loadCellsFrom]
  · cases xa <;> simp [Builtin.firstCells, loadCells, loadCellsFrom]
theorem wpList_app_by {ops : Array Oper} {rest : List Oper} {o : Oper} {a : Act} {Q : Exit → Act → World → Prop} {w : World} (hgd : o.guard = none) (s xo : Operand) (ho : o.op = .call { callee := .builtin .append, args := #[s, xo], argTypes := #[22, 22] })
    {base g0 n c0 : Nat} {zs : List Int} (hO : OwnE 1 byC w base 5 (.slice (some ⟨g0, 0, none⟩) n c0) zs) (hn : zs.length = n) (hs : a.eval s = .slice (some ⟨g0, 0, none⟩) n c0) (xa : Option Addr) (m c : Nat) (ys : List Int) (hx : a.eval xo = .slice xa m c) (hy : RowE 1 byC w xa m ys) (hm : n + m ≤ 4194304) (hb : base ≤ w.heap.size)
    (h : ∀ g cap w', OwnE 1 byC w' base 5 (.slice (some ⟨g, 0, none⟩) (n + m) cap) (zs ++ ys) → w.grownBy w' (some g0) → (g = g0 ∨ g = w.heap.size) → wpList Try.prog ops Q rest (a.put o.dst (.slice (some ⟨g, 0, none⟩) (n + m) cap)) w') : wpList Try.prog ops Q (o :: rest) a w := by
  obtain ⟨i0, hii, hz0, hz1, hz2⟩ := info_parts info_by3
  have hlen := hy.len_eq
  by_cases h0 : m = 0
  · subst h0
    obtain rfl : ys = [] := List.length_eq_zero_iff.1 hlen
    have hcap : n ≤ c0 := by
      obtain ⟨a', cap', e, hle, _⟩ := hO.slice
      cases e
      rw [hn] at hle
      exact hle
    have hr := fun ty => run_append_nothing (P := Try.prog) w 22 22 ty 5 i0 Try.underlying22 hii (some ⟨g0, 0, none⟩) n c0 hcap (.slice xa 0 c) (by rw [hz1]; exact src_noneB Try.underlying22 xa c w)
    refine wpList_plain hgd fun K hK => ?_
    unfold Oper.wp execOp
    simp only [ho, resolve, invoke, builtin, Sem.run_bind, Sem.run_pure, Result.andThen_ok, List.map_toArray, List.map_cons, List.map_nil, hs, hx, hr]
    have := h g0 c0 w (by rw [List.append_nil]; exact hO) ⟨rfl, rfl, rfl, Nat.le_refl _, fun _ _ _ => rfl⟩ (.inl rfl)
    exact hK _ _ this
  · obtain ⟨bb, off, rfl, _⟩ := hy.at_ 0 (by omega)
    obtain ⟨vs, hown, hvx⟩ := hO.own
    rw [hn] at hown
    refine wpList_append_lies _ hgd s xo 22 ho base 5 i0 (.int .u8 0) 1 1 Try.underlying22 hii hz0 hz1 hz2 rfl (by decide) _ n vs hs hown ⟨bb, off, none⟩ m c (flatE 1 byC ys) hx (by rw [flatE_len, hlen]) (fun j u hj => ?_) (fun u hu => ?_) (by omega) (by unfold maxLen; omega) (by omega) hb _ rfl ?_
    · have hj' : j < ys.length * 1 := by
        rcases Nat.lt_or_ge j (ys.length * 1) with h | h
        · exact h
        · rw [List.getElem?_eq_none (by rw [flatE_len]; exact h)] at hj; cases hj
      rw [flatE_at hj'] at hj
      obtain ⟨b', off', e, hc⟩ := hy.at_ j (by omega)
      simp only [Option.some.injEq, Addr.mk.injEq, and_true] at e
      obtain ⟨rfl, rfl⟩ := e
      have := hc 0 (by omega)
      rw [addr_addR, ← hj, Nat.mod_one, Nat.div_one]
      simpa using this
    · obtain ⟨p, _, rfl⟩ := List.mem_map.1 hu; rfl
    · intro g cap w' h1 h2 h3 _
      have hown1 := hown.1
      refine h g cap w' ?_ h2 ?_
      · have hrow := ownE_apps (xs := zs) (ys := ys) (vs := vs) (v := .slice (some ⟨g, 0, none⟩) (n + m) cap) (w := w') (base := base) (T := 5) (K := 1) (cells := byC) (by decide) (by rw [hn, hlen]; exact h1) (by rw [hn]; exact hown1) hvx
        exact hrow
      · rcases h3 with h3 | h3
        · left; simpa [Value.ownBlock] using h3.symm
        · exact .inr h3

end Go.Proofs.Ytfnnfldfnjnlfag
