/-
  A list, nil or not, behind a list that a call has made: elements of several cells, as a law for the walk. At lists of at most 1100000 together.
  slices.Delete of one defect out of a list that a call has made: the list without it, in the same memory. At lists of at most 1000.
  A region that draws its order and whose last operation waits for all others: these only read (their callees may make memory): one walk, in the order of the text, then the last operation. No condition.
-/
import Derived.Test.YtfnnfldfnjnlfahMAppR
import Derived.Lib.AppendZeros
import Derived.Test.YtfnnfldfnjnlfahInsD
import Derived.Deep.Upon
import Derived.Test.YtfnnfldfnjnlfahMMarkText

namespace Go.Proofs.Ytfnnfldfnjnlfah
open Go.RowKit

theorem run_append_any_none {P : Program} {w : World} (base : Nat) (t ty e : TypeId) (i : TypeInfo) (size c : Nat) (ht : P.underlying t = some (.slice e)) (hi : P.info? e = some i)
    (v : Value) (n : Nat) (xs : List Value) (hown : w.ownsRow base e size v n xs) :
    (Builtin.append_ #[t, t] ty #[v, .slice none 0 c]).run P w = .ok v w := by
  rcases hown.2 with ⟨rfl, rfl⟩ | ⟨g, cap, cur, rfl, _, _, hnc, _⟩
  · simp [Builtin.append_, run_underlying ht, sizeOf, typeInfo, hi, Builtin.lenOf, Builtin.firstCells]
  · simp [Builtin.append_, run_underlying ht, sizeOf, typeInfo, hi, Builtin.lenOf, Builtin.firstCells, hnc, storeCells]
section
variable {α : Type} [Inhabited α] {K : Nat} {cells : α → Nat → Value}
theorem RowE.nil_src {w : World} {m : Nat} {ys : List α} (h : RowE K cells w none m ys) : m = 0 ∧ ys = [] := by
  have h0 : m = 0 := by
    rcases Nat.eq_zero_or_pos m with h0 | h0
    · exact h0
    · obtain ⟨b, off, e, _⟩ := h.at_ 0 h0
      cases e
  exact ⟨h0, List.length_eq_zero_iff.1 (by rw [h.len_eq, h0])⟩
theorem wpList_app_elsM {ops : Array Oper} {rest : List Oper} {o : Oper} {a : Act} {Q : Exit → Act → World → Prop} {w : World} (hwn : Region.wanted o (yielded ops a.tmps) = true) (s xo : Operand) (sT eT : TypeId) (ho : o.op = .call { callee := .builtin .append, args := #[s, xo], argTypes := #[sT, sT] })
    (hU : Try.prog.underlying sT = some (.slice eT)) {z : Value} {bytes : Nat} (hI : (Try.prog.info? eT).map (fun i => (i.zero, i.size, i.bytes)) = some (some z, K, bytes)) (hz : z.cells.size = K) (hK : 0 < K) (hby : bytes ≤ 1000) (h1c : ∀ x q, (cells x q).oneCell' = true)
    {base : Nat} {v : Value} {zs : List α} (hO : OwnE K cells w base eT v zs) (hs : a.eval s = v) (ad : Option Addr) (m c : Nat) (ys : List α) (hx : a.eval xo = .slice ad m c) (hy : RowE K cells w ad m ys) (hm : zs.length + m ≤ 1100000) (hb : base ≤ w.heap.size)
    (h : ∀ v' w', OwnE K cells w' base eT v' (zs ++ ys) → w.grownBy w' v.ownBlock → (v' = .slice none 0 0 → v = .slice none 0 0) → wpList Try.prog ops Q rest (a.put o.dst v') w') : wpList Try.prog ops Q (o :: rest) a w := by
  refine wpList_step fun _ hK' => ?_
  rw [if_pos hwn]
  obtain ⟨i0, hii, hz0, hz1, hz2⟩ := info_parts hI
  cases ad with
  | none =>
    obtain ⟨rfl, rfl⟩ := hy.nil_src
    obtain ⟨vs, hown, hvx⟩ := hO.own
    refine Lib.wp_append_run w s xo sT sT ho v (.slice none 0 c) hs hx v w (run_append_any_none base sT _ eT i0 K c hU hii v zs.length vs hown) ?_
    exact hK' _ _ (h v w (by rw [List.append_nil]; exact hO) ⟨rfl, rfl, rfl, Nat.le_refl _, fun _ _ _ => rfl⟩ id)
  | some x =>
    obtain ⟨vs, hown, hvx⟩ := hO.own
    have hlen := hy.len_eq
    have hmul : (zs.length + m) * bytes ≤ 1100000 * 1000 := Nat.mul_le_mul hm hby
    refine wp_append_own w s xo sT ho base eT i0 z K bytes hU hii hz0 hz1 hz2 hz hK v zs.length vs hs hown x m c (flatE K cells ys) hx (by rw [flatE_len, hlen]) (fun j u hj => ?_) (fun u hu => ?_) (by unfold maxLen; omega) (by omega) hb ?_
    · have hj' : j < ys.length * K := by
        rcases Nat.lt_or_ge j (ys.length * K) with h | h
        · exact h
        · rw [List.getElem?_eq_none (by rw [flatE_len]; exact h)] at hj; cases hj
      rw [flatE_at hj'] at hj
      have hd : j / K < m := by rw [← hlen]; exact Nat.div_lt_of_lt_mul (by rw [Nat.mul_comm]; exact hj')
      obtain ⟨b', off', e, hc⟩ := hy.at_ (j / K) hd
      simp only [Option.some.injEq] at e
      subst e
      have e : off' + j = off' + j / K * K + j % K := by rw [Nat.add_assoc, Nat.div_add_mod']
      rw [addr_addR, e, ← hj]; exact hc (j % K) (Nat.mod_lt _ hK)
    · obtain ⟨p, _, rfl⟩ := List.mem_map.1 hu; exact h1c _ _
    · intro v' w' h1 h2 h3
      exact hK' _ _ (h v' w' (ownE_apps hK (by rw [hlen]; exact h1) hown.1 hvx) h2 (fun e => (h3.1 e).1))
end

end Go.Proofs.Ytfnnfldfnjnlfah

namespace Go.Proofs.Ytfnnfldfnjnlfah
open Go Go.RowKit

/-- The list without the element at place k. -/
def dlD {α : Type} (us : List α) (k : Nat) : List α := us.take k ++ us.drop (k + 1)
theorem dlD_len {α : Type} {us : List α} {k : Nat} (h : k < us.length) : (dlD us k).length = us.length - 1 := by
  simp only [dlD, List.length_append, List.length_take, List.length_drop]; omega
theorem dlD_at {α : Type} [Inhabited α] {us : List α} {k i : Nat} (h : k < us.length) (hi : i < us.length - 1) : elAt (dlD us k) i = elAt us (if i < k then i else i + 1) := by
  unfold dlD
  by_cases c : i < k
  · rw [if_pos c, elAt_left (by rw [List.length_take]; omega)]
    simp [elAt, c]
  · rw [if_neg c]
    obtain ⟨j, rfl⟩ : ∃ j, i = (us.take k).length + j := ⟨i - k, by rw [List.length_take]; omega⟩
    rw [elAt_right]
    simp only [List.length_take] at *
    simp only [elAt, List.getElem?_drop]
    congr 2; omega
theorem step_append_runD {ops : Array Oper} {o : Oper} {a : Act} {w : World} {K : Act → World → Prop} {Q : Exit → Act → World → Prop} {E : Prop}
    (hg : o.guard = none) (d x : Operand) (dT : TypeId) (hop : o.op = Op.call { callee := Callee.builtin Builtin.append, args := #[d, x], argTypes := #[dT, dT] })
    (v u : Value) (hd : a.eval d = v) (hx : a.eval x = u) {v' : Value} {w' : World} (hr : (Builtin.append_ #[dT, dT] o.type #[v, u]).run Try.prog w = .ok v' w') (hK : K (a.put o.dst v') w') :
    if Region.wanted o (yielded ops a.tmps) = true then Oper.wp Try.prog o a w K Q else E := by
  have hw : Region.wanted o (yielded ops a.tmps) = true := by simp [Region.wanted, hg]
  rw [if_pos hw]
  unfold Oper.wp
  simp [execOp, hop, resolve, invoke, builtin, hd, hx, hr, Result.andThen]
  exact hK
theorem clear_oneD (w : World) (g o c : Nat) (cur : Array Value) (ty : TypeId) (hg : w.heap[g]? = some (.cells cur 40 (0, 0))) (hfit : o + 3 ≤ cur.size) :
    (Builtin.clear_ #[31] ty #[.slice (some ⟨g, o, none⟩) 1 c]).run Try.prog w = .ok (.tuple #[]) (w.setRow g (seg cur.toList o [.string ⟨#[]⟩, .int .i64 0, .int .i64 0]).toArray) := by
  have hst := run_storeCells_at Try.prog g o 40 [.string ⟨#[]⟩, .int .i64 0, .int .i64 0] 0 cur w hg (by simpa using hfit) (by intro v hv; simp at hv; rcases hv with rfl | rfl <;> rfl)
  have hz : (Builtin.zeroCells (Value.agg #[.string ⟨#[]⟩, .int .i64 0, .int .i64 0]).cells 1).toList = [.string ⟨#[]⟩, .int .i64 0, .int .i64 0] := by kernel_rfl
  have hv := Try.zeroValue40 w
  simp only [Nat.add_zero] at hst
  simp [Builtin.clear_, run_underlying Try.underlying31, hv, hz, hst, seg]

set_option maxRecDepth 100000 in
set_option maxHeartbeats 4000000 in
theorem delD_mid (base g n m cp k j : Nat) (us : List Df) (w : World) (h : OwnE 3 dfC w base 40 (.slice (some ⟨g, 0, none⟩) n cp) us) (hn : us.length = n) (hnm : n = m + 1) (hj : j = k + 1) (hs : n ≤ 1000) (hk : k < m) :
    Calls Try.prog 94 #[.slice (some ⟨g, 0, none⟩) n cp, .int .i64 (k : Int), .int .i64 (j : Int)] w fun e w' => e = .returned (.slice (some ⟨g, 0, none⟩) m cp) ∧ OwnE 3 dfC w' base 40 (.slice (some ⟨g, 0, none⟩) m cp) (dlD us k) ∧ w.grownBy w' (some g) := by
  obtain ⟨cs, cur, hbg, hgw, hg, hnc, hcm, hcz, hcl, hcur, hcell, hcs, h1c⟩ := insD_open h hn
  obtain ⟨i0, hi0, hz0, hzs, hzb⟩ := info_parts infoDf
  have hcz2 : cur.toList.length = cp * 3 := by simpa using hcz
  obtain ⟨R2, hR2⟩ : ∃ R2 : Array Value, R2 = (seg cur.toList (k * 3) (cs.drop (j * 3))).toArray := ⟨_, rfl⟩
  have hdl : (cs.drop (j * 3)).length = (n - j) * 3 := by rw [List.length_drop, hcl]; omega
  have hkm : k + (n - j) = m := by omega
  have happ : ∀ ty c, (Builtin.append_ #[31, 31] ty #[.slice (some ⟨g, 0, none⟩) k cp, .slice (some ⟨g, j * 3, none⟩) (n - j) c]).run Try.prog w.drew = .ok (.slice (some ⟨g, 0, none⟩) m cp) (w.drew.setRow g R2) := fun ty c => by
    have := run_append_room (P := Try.prog) w.drew 31 ty 40 i0 Try.underlying31 hi0 g k cp cur hg ⟨g, j * 3, none⟩ (n - j) c (cs.drop (j * 3)) (by rw [hzs]; exact hdl) (fun p u hp => by
      rw [List.getElem?_drop] at hp
      rw [addr_addR]
      exact hcell _ u hp) (fun v hv => h1c v (List.mem_of_mem_drop hv)) (by omega) (by rw [hzs, hdl, hcz]; omega)
    rw [hkm, hzs] at this
    rw [hR2]
    exact this
  have hs2 : R2.toList.length = cp * 3 := by rw [hR2]; simp only; rw [seg_len (by rw [hcz2, hdl]; omega)]; exact hcz2
  have hs3 : R2.size = cp * 3 := by simpa using hs2
  have hg2 : (w.drew.setRow g R2).heap[g]? = some (.cells R2 40 (0, 0)) := setRow_heap w.drew g cur R2 _ _ hg
  obtain ⟨R3, hR3⟩ : ∃ R3 : Array Value, R3 = (seg R2.toList (m * 3) [.string ⟨#[]⟩, .int .i64 0, .int .i64 0]).toArray := ⟨_, rfl⟩
  have hclr : ∀ ty c, (Builtin.clear_ #[31] ty #[.slice (some ⟨g, m * 3, none⟩) 1 c]).run Try.prog (w.drew.setRow g R2) = .ok (.tuple #[]) ((w.drew.setRow g R2).setRow g R3) := fun ty c => by
    rw [hR3]; exact clear_oneD (w.drew.setRow g R2) g (m * 3) c R2 ty hg2 (by rw [hs3]; omega)
  have hR3l : R3.size = cp * 3 := by
    rw [hR3]; simp only [List.size_toArray]; rw [seg_len (by rw [hs2]; simp; omega)]; exact hs2
  have hcells : ∀ i, i < m → ∀ q, q < 3 → R3.toList[i * 3 + q]? = some (dfC (elAt (dlD us k) i) q) := fun i hi q hq => by
    rw [hR3]; simp only
    rw [seg_out (by rw [hs2]; simp; omega) (.inl (by omega)), dlD_at (by omega) (by omega), hR2]
    simp only
    by_cases c : i < k
    · rw [if_pos c, seg_out (by rw [hcz2, hdl]; omega) (.inl (by omega)), hcur _ (by omega)]
      exact hcs i (by omega) q hq
    · rw [if_neg c, seg_in (by rw [hcz2, hdl]; omega) (by omega) (by rw [hdl]; omega), List.getElem?_drop, show j * 3 + (i * 3 + q - k * 3) = (i + 1) * 3 + q by omega]
      exact hcs (i + 1) (by omega) q hq
  have hfin : OwnE 3 dfC ((w.drew.setRow g R2).setRow g R3) base 40 (.slice (some ⟨g, 0, none⟩) m cp) (dlD us k) ∧ w.grownBy ((w.drew.setRow g R2).setRow g R3) (some g) := by
    have gr : w.grownBy ((w.drew.setRow g R2).setRow g R3) (some g) := grown_heap rfl rfl rfl (by simp) (fun j hj hne => by rw [setRow_at hne, setRow_at hne]; rfl)
    have hh : ((w.drew.setRow g R2).setRow g R3).heap[g]? = some (.cells R3 40 (0, 0)) := setRow_heap (w.drew.setRow g R2) g R2 R3 _ _ hg2
    have hlen : (dlD us k).length = m := by rw [dlD_len (by omega)]; omega
    exact ⟨ownE_row hh hbg hlen (by omega) hcm hR3l hcells, gr⟩
  have HF := hide hfin
  have hk0 : (0 : Int) ≤ (k : Int) := by omega
  have hj0 : (0 : Int) ≤ (j : Int) := by omega
  have hkj : (k : Int) ≤ (j : Int) := by omega
  have hjn : (j : Int) ≤ (n : Int) := by omega
  have hkjn : k ≤ j := by omega
  have hjnn : j ≤ n := by omega
  have hkc : k ≤ cp := by omega
  have hki : (k : Int) ≤ (cp : Int) := by omega
  have hjc : j ≤ cp := by omega
  have hm0 : (0 : Int) ≤ (m : Int) := by omega
  have hmn2 : (m : Int) ≤ (n : Int) := by omega
  have hmnn : m ≤ n := by omega
  have hncI : (n : Int) ≤ (cp : Int) := by omega
  have hmc : ¬ (cp = m) := by omega
  have hckk : ¬ (cp = k) := by omega
  have hnk : ¬ (n = k) := by omega
  have hn1 : n - m = 1 := by omega
  have hne1 : ((k : Int) == (j : Int)) = false := by simp only [beq_eq_false_iff_ne]; omega
  have hne2 : ¬ ((k : Int) = (j : Int)) := by omega
  have hne3 : ¬ (k = j) := by omega
  have hne4 : decide (k = j) = false := by simp only [decide_eq_false_iff_not]; omega
  have hcj : ¬ (cp = j) := by omega
  have hcmx : cp ≤ 9223372036854775807 := by unfold maxLen at hcm; omega
  clear hfin hcells hR3l hs2 hs3 hg2 hdl hR2 hR3 hkm hnm hk hcur hcell hcs h1c hcl hcz hcz2 hcm hg h hgw hbg hn hj hi0 hz0 hzs hzb
  go_enter Try.func94, Try.ntmps94
  go_wp2_with fail
  go_region_law (refine step_append_runD rfl (.tmp 22) (.tmp 25) 31 rfl (.slice (some ⟨g, 0, none⟩) k cp) (.slice (some ⟨g, j * 3, none⟩) (n - j) (cp - j)) (by simp [Act.eval, Act.put]) (by simp [Act.eval, Act.put]) (happ 31 (cp - j)) ?_)
  go_wp2_with fail
  go_ret
  exact ⟨rfl, unhide HF⟩
set_option maxRecDepth 100000 in
set_option maxHeartbeats 4000000 in
theorem delD_end (base g n m cp k j : Nat) (us : List Df) (w : World) (h : OwnE 3 dfC w base 40 (.slice (some ⟨g, 0, none⟩) n cp) us) (hn : us.length = n) (hnm : n = m + 1) (hj : j = k + 1) (hs : n ≤ 1000) (hk : k = m) :
    Calls Try.prog 94 #[.slice (some ⟨g, 0, none⟩) n cp, .int .i64 (k : Int), .int .i64 (j : Int)] w fun e w' => e = .returned (.slice (some ⟨g, 0, none⟩) m cp) ∧ OwnE 3 dfC w' base 40 (.slice (some ⟨g, 0, none⟩) m cp) (dlD us k) ∧ w.grownBy w' (some g) := by
  subst hk
  obtain ⟨cs, cur, hbg, hgw, hg, hnc, hcm, hcz, hcl, hcur, hcell, hcs, h1c⟩ := insD_open h hn
  obtain ⟨i0, hi0, hz0, hzs, hzb⟩ := info_parts infoDf
  have hcz2 : cur.toList.length = cp * 3 := by simpa using hcz
  have hR2 : cur = cur := rfl
  have happ : ∀ ty xa c, (Builtin.append_ #[31, 31] ty #[.slice (some ⟨g, 0, none⟩) k cp, .slice xa 0 c]).run Try.prog w.drew = .ok (.slice (some ⟨g, 0, none⟩) k cp) w.drew := fun ty xa c => run_append_nothing (P := Try.prog) w.drew 31 31 ty 40 i0 Try.underlying31 hi0 (some ⟨g, 0, none⟩) k cp (by omega) (.slice xa 0 c) ⟨.inl ⟨_, Try.underlying31⟩, fun w' => by simp [Builtin.lenOf], by cases xa <;> simp [Builtin.firstCells, loadCells, loadCellsFrom], by cases xa <;> simp [Builtin.firstCells, loadCells, loadCellsFrom], by simp, fun u hu => by cases hu⟩
  obtain ⟨R3, hR3⟩ : ∃ R3 : Array Value, R3 = (seg cur.toList (k * 3) [.string ⟨#[]⟩, .int .i64 0, .int .i64 0]).toArray := ⟨_, rfl⟩
  have hclr : ∀ ty c, (Builtin.clear_ #[31] ty #[.slice (some ⟨g, k * 3, none⟩) 1 c]).run Try.prog w.drew = .ok (.tuple #[]) (w.drew.setRow g R3) := fun ty c => by
    rw [hR3]; exact clear_oneD w.drew g (k * 3) c cur ty hg (by rw [hcz]; omega)
  have hR3l : R3.size = cp * 3 := by
    rw [hR3]; simp only [List.size_toArray]; rw [seg_len (by rw [hcz2]; simp; omega)]; exact hcz2
  have hR3a : ∀ p, p < k * 3 → R3.toList[p]? = cs[p]? := fun p hp => by
    rw [hR3]; simp only; rw [seg_out (by rw [hcz2]; simp; omega) (.inl hp)]; exact hcur p (by omega)
  have hcells : ∀ i, i < k → ∀ q, q < 3 → R3.toList[i * 3 + q]? = some (dfC (elAt (dlD us k) i) q) := fun i hi q hq => by
    rw [hR3a _ (by omega), dlD_at (by omega) (by omega), if_pos (by omega)]
    exact hcs i (by omega) q hq
  have hfin : OwnE 3 dfC (w.drew.setRow g R3) base 40 (.slice (some ⟨g, 0, none⟩) k cp) (dlD us k) ∧ w.grownBy (w.drew.setRow g R3) (some g) := by
    have gr : w.grownBy (w.drew.setRow g R3) (some g) := grown_heap rfl rfl rfl (by simp) (fun j hj hne => setRow_at hne)
    have hh : (w.drew.setRow g R3).heap[g]? = some (.cells R3 40 (0, 0)) := setRow_heap w.drew g cur R3 _ _ hg
    have hlen : (dlD us k).length = k := by rw [dlD_len (by omega)]; omega
    exact ⟨ownE_row hh hbg hlen (by omega) hcm hR3l hcells, gr⟩
  have HF := hide hfin
  have hk0 : (0 : Int) ≤ (k : Int) := by omega
  have hj0 : (0 : Int) ≤ (j : Int) := by omega
  have hkj : (k : Int) ≤ (j : Int) := by omega
  have hjn : (j : Int) ≤ (n : Int) := by omega
  have hkjn : k ≤ j := by omega
  have hjnn : j ≤ n := by omega
  have hkc : k ≤ cp := by omega
  have hki : (k : Int) ≤ (cp : Int) := by omega
  have hjc : j ≤ cp := by omega
  have hm0 : (0 : Int) ≤ (k : Int) := by omega
  have hmn2 : (k : Int) ≤ (n : Int) := by omega
  have hmnn : k ≤ n := by omega
  have hncI : (n : Int) ≤ (cp : Int) := by omega
  have hmc : ¬ (cp = k) := by omega
  have hckk : ¬ (cp = k) := by omega
  have hnk : ¬ (n = k) := by omega
  have hn1 : n - k = 1 := by omega
  have hne1 : ((k : Int) == (j : Int)) = false := by simp only [beq_eq_false_iff_ne]; omega
  have hne2 : ¬ ((k : Int) = (j : Int)) := by omega
  have hne3 : ¬ (k = j) := by omega
  have hne4 : decide (k = j) = false := by simp only [decide_eq_false_iff_not]; omega
  have hnj : n - j = 0 := by omega
  have hjn2 : j = n := by omega
  have hcmx : cp ≤ 9223372036854775807 := by unfold maxLen at hcm; omega
  clear hfin hcells hR3l hR3 hR3a hR2 hnm hcur hcell hcs h1c hcl hcz hcz2 hcm hg h hgw hbg hn hj hi0 hz0 hzs hzb
  rcases Nat.lt_or_ge n cp with hcn | hcn
  · have hcn2 : ¬ (cp = n) := by omega
    go_enter Try.func94, Try.ntmps94
    go_wp2_with fail
    go_region_law (refine step_append_runD rfl (.tmp 22) (.tmp 25) 31 rfl (.slice (some ⟨g, 0, none⟩) k cp) (.slice (some ⟨g, n * 3, none⟩) 0 (cp - n)) (by simp [Act.eval, Act.put]) (by simp [Act.eval, Act.put]) (happ 31 _ _) ?_)
    go_wp2_with fail
    go_ret
    exact ⟨rfl, unhide HF⟩
  · obtain rfl : cp = n := by omega
    go_enter Try.func94, Try.ntmps94
    go_wp2_with fail
    go_region_law (refine step_append_runD rfl (.tmp 22) (.tmp 25) 31 rfl (.slice (some ⟨g, 0, none⟩) k cp) (.slice (some ⟨g, 0, none⟩) 0 0) (by simp [Act.eval, Act.put]) (by simp [Act.eval, Act.put]) (happ 31 _ _) ?_)
    go_wp2_with fail
    go_ret
    exact ⟨rfl, unhide HF⟩
theorem delD_any (base g n m cp k j : Nat) (us : List Df) (w : World) (h : OwnE 3 dfC w base 40 (.slice (some ⟨g, 0, none⟩) n cp) us) (hn : us.length = n) (hnm : n = m + 1) (hj : j = k + 1) (hs : n ≤ 1000) (hk : k < n) :
    Calls Try.prog 94 #[.slice (some ⟨g, 0, none⟩) n cp, .int .i64 (k : Int), .int .i64 (j : Int)] w fun e w' => e = .returned (.slice (some ⟨g, 0, none⟩) m cp) ∧ OwnE 3 dfC w' base 40 (.slice (some ⟨g, 0, none⟩) m cp) (dlD us k) ∧ w.grownBy w' (some g) := by
  by_cases e : k = m
  · exact delD_end base g n m cp k j us w h hn hnm hj hs e
  · exact delD_mid base g n m cp k j us w h hn hnm hj hs (by omega)

end Go.Proofs.Ytfnnfldfnjnlfah

namespace Go.Proofs.Ytfnnfldfnjnlfah
open Go.RowKit

def lastOf : List Oper → Oper
  | [] => default
  | [o] => o
  | _ :: b :: l => lastOf (b :: l)
/-- The last operation hands on a constant in place of what it does. -/
def swapLast : List Oper → List Oper
  | [] => []
  | [o] => [⟨o.dst, .move (.const (.bool true)), o.type, o.pos, o.after, o.guard⟩]
  | a :: b :: l => a :: swapLast (b :: l)

theorem swapLast_len : ∀ L : List Oper, (swapLast L).length = L.length
  | [] => rfl
  | [_] => rfl
  | _ :: b :: l => by simp [swapLast, swapLast_len (b :: l)]
theorem swapLast_at : ∀ (L : List Oper) (i : Nat), i + 1 < L.length → (swapLast L)[i]? = L[i]?
  | [], i, h => by simp at h
  | [_], i, h => by simp at h
  | a :: b :: l, 0, _ => by simp [swapLast]
  | a :: b :: l, i + 1, h => by
    have := swapLast_at (b :: l) i (by simpa using h)
    simpa [swapLast] using this
theorem lastOf_at : ∀ (L : List Oper), 0 < L.length → L[L.length - 1]? = some (lastOf L) ∧ (swapLast L)[L.length - 1]? = some ⟨(lastOf L).dst, .move (.const (.bool true)), (lastOf L).type, (lastOf L).pos, (lastOf L).after, (lastOf L).guard⟩
  | [], h => by simp at h
  | [_], _ => by simp [lastOf, swapLast]
  | a :: b :: l, _ => by
    have := lastOf_at (b :: l) (by simp)
    simpa [lastOf, swapLast] using this

/-- What is asked of the region's edges. -/
def lateB (L : List Oper) : Bool :=
  decide (0 < L.length) && (lastOf L).guard.isNone && (lastOf L).dst.isNone &&
  (List.range L.length).all (fun i => ((L[i]?).map fun o => o.after.all fun e => !Region.binds .any e || decide (e.on < i)).getD true) &&
  (List.range (L.length - 1)).all (fun i => (List.range L.length).any fun j => decide (i < j) && ((L[j]?).map fun o => o.after.toList.any fun e => Region.binds .any e && decide (e.on = i)).getD false)

theorem mem_ready {ops : Array Oper} {listed : Array Bool} {i : Nat} : i ∈ Region.ready .any ops listed ↔ i < ops.size ∧ listed.getD i true = false ∧ ∃ oi, ops[i]? = some oi ∧ ∀ e ∈ oi.after, Region.binds .any e = true → listed.getD e.on false = true := by
  unfold Region.ready
  simp only [List.mem_filter, List.mem_range, Bool.and_eq_true, Bool.not_eq_true']
  constructor
  · rintro ⟨h1, h2, h3⟩
    refine ⟨h1, h2, ?_⟩
    cases h : ops[i]? with
    | none => rw [h] at h3; simp at h3
    | some oi =>
      rw [h] at h3
      simp only [Option.map_some, Option.getD_some, Array.all_eq_true_iff_forall_mem, Bool.or_eq_true, Bool.not_eq_true'] at h3
      refine ⟨oi, rfl, fun e he hb => ?_⟩
      rcases h3 e he with k | k
      · rw [hb] at k; cases k
      · exact k
  · rintro ⟨h1, h2, oi, h, h3⟩
    refine ⟨h1, h2, ?_⟩
    rw [h]
    simp only [Option.map_some, Option.getD_some, Array.all_eq_true_iff_forall_mem, Bool.or_eq_true, Bool.not_eq_true']
    intro e he
    cases hb : Region.binds .any e
    · exact .inl rfl
    · exact .inr (h3 e he hb)

/-- Whatever came up, what it waits for came up. -/
def Closed (ops : Array Oper) (listed : Array Bool) : Prop := ∀ j oj, ops[j]? = some oj → listed.getD j true = true → ∀ e ∈ oj.after, Region.binds .any e = true → listed.getD e.on false = true

theorem getD_set (listed : Array Bool) (i j : Nat) (d : Bool) (hi : i < listed.size) : (listed.setIfInBounds i true).getD j d = if j = i then true else listed.getD j d := by
  simp only [Array.getD_eq_getD_getElem?, Array.getElem?_setIfInBounds]
  by_cases e : i = j
  · subst e; simp [hi]
  · simp [e, Ne.symm e]

theorem then_aux {P : Program} {ops ops' : Array Oper} {n : Nat} {o : Oper} {C : World → Prop} {Q' : Exit → Act → World → Prop}
    (hsz : ops.size = n + 1) (hsz' : ops'.size = n + 1) (hsame : ∀ i, i < n → ops'[i]? = ops[i]?)
    (ho : ops[n]? = some o) (ho' : ops'[n]? = some ⟨o.dst, .move (.const (.bool true)), o.type, o.pos, o.after, o.guard⟩) (hg : o.guard = none) (hd : o.dst = none)
    (hE1 : ∀ i oi, ops[i]? = some oi → ∀ e ∈ oi.after, Region.binds .any e = true → e.on < i)
    (hE2 : ∀ i, i < n → ∃ j oj, i < j ∧ ops[j]? = some oj ∧ ∃ e ∈ oj.after, Region.binds .any e = true ∧ e.on = i) :
    ∀ (fuel : Nat) (listed : Array Bool) (a : Act), listed.size = n + 1 → Closed ops listed → listed.getD n true = false →
      wpAnyQ P .any ops' C (fun a => ∀ w', C w' → o.wp P a w' (fun a w => Q' .normal a w) Q') fuel listed a → ∀ w, C w → wpAny P .any ops Q' fuel listed a w := by
  have hget : ∀ i : Nat, (ops'[i]?).map (fun x : Oper => (x.after, x.dst)) = (ops[i]?).map (fun x : Oper => (x.after, x.dst)) := by
    intro i
    rcases Nat.lt_trichotomy i n with h | h | h
    · rw [hsame i h]
    · subst h; rw [ho, ho']; rfl
    · rw [Array.getElem?_eq_none (by omega), Array.getElem?_eq_none (by omega)]
  have hready : ∀ listed, Region.ready .any ops' listed = Region.ready .any ops listed := by
    intro listed
    unfold Region.ready
    rw [hsz, hsz']
    refine List.filter_congr fun i _ => ?_
    congr 1
    have := hget i
    cases h1 : ops[i]? <;> cases h2 : ops'[i]? <;> simp [h1, h2] at this ⊢
    rw [this.1]
  have hyield : ∀ (tm : Array Value) j, yielded ops' tm j = yielded ops tm j := by
    intro tm j
    unfold yielded
    have := hget j
    cases h1 : ops[j]? <;> cases h2 : ops'[j]? <;> simp [h1, h2] at this ⊢
    rw [this.2]
  have hsome : ∀ listed : Array Bool, listed.size = n + 1 → listed.getD n true = false → Region.ready .any ops listed ≠ [] := by
    intro listed hls hn h0
    have key : ∀ i, i ≤ n → listed.getD i true = true := by
      intro i
      induction i using Nat.strongRecOn with
      | ind i ih =>
        intro hi
        cases hl : listed.getD i true
        · exfalso
          have hi2 : ops[i]? = some (ops[i]'(by omega)) := Array.getElem?_eq_getElem (by omega)
          have : i ∈ Region.ready .any ops listed := by
            rw [mem_ready]
            refine ⟨by omega, hl, _, hi2, fun e he hb => ?_⟩
            have hlt := hE1 i _ hi2 e he hb
            have h1 := ih e.on hlt (by omega)
            simp only [Array.getD_eq_getD_getElem?] at h1 ⊢
            have h3 : listed[e.on]? = some (listed[e.on]'(by omega)) := Array.getElem?_eq_getElem (by omega)
            rw [h3] at h1 ⊢
            simpa using h1
          rw [h0] at this
          cases this
        · rfl
    rw [key n (Nat.le_refl _)] at hn
    cases hn
  intro fuel
  induction fuel with
  | zero =>
    intro listed a hls hcl hn h w hC
    obtain ⟨h1, _⟩ := h
    rw [hready] at h1
    exact absurd h1 (hsome listed hls hn)
  | succ fuel ih =>
    intro listed a hls hcl hn h w hC
    refine ⟨fun h0 => absurd h0 (hsome listed hls hn), fun i hi => ?_⟩
    have hq := h.2 i (by rw [hready]; exact hi)
    obtain ⟨hi1, hi2, oi, hoi, hed⟩ := mem_ready.1 hi
    rw [hsz] at hi1
    by_cases hin : i = n
    · subst hin
      rw [ho] at hoi
      simp only [Option.some.injEq] at hoi
      subst hoi
      -- all others have come up
      have hall : ∀ m j, j + m = i → j < i → listed.getD j true = true := by
        intro m
        induction m using Nat.strongRecOn with
        | ind m ihm =>
          intro j hj hlt
          obtain ⟨k, ok, hjk, hok, e, he, hb, heq⟩ := hE2 j hlt
          have hk : k ≤ i := by
            rcases Nat.lt_or_ge i k with h | h
            · rw [Array.getElem?_eq_none (by omega)] at hok; cases hok
            · exact h
          have : listed.getD e.on false = true := by
            by_cases hki : k = i
            · subst hki
              rw [ho] at hok
              simp only [Option.some.injEq] at hok
              subst hok
              exact hed e he hb
            · exact hcl k ok hok (ihm (i - k) (by omega) k (by omega) (by omega)) e he hb
          rw [heq] at this
          simp only [Array.getD_eq_getD_getElem?] at this ⊢
          have h3 : listed[j]? = some (listed[j]'(by omega)) := Array.getElem?_eq_getElem (by omega)
          rw [h3] at this ⊢
          simpa using this
      have hdone : Region.ready .any ops (listed.setIfInBounds i true) = [] := by
        refine List.eq_nil_iff_forall_not_mem.2 fun j hj => ?_
        obtain ⟨j1, j2, _⟩ := mem_ready.1 hj
        rw [getD_set _ _ _ _ (by omega)] at j2
        by_cases e : j = i
        · rw [if_pos e] at j2; cases j2
        · rw [if_neg e, hall (i - j) j (by omega) (by omega)] at j2; cases j2
      have hQ : ∀ w', C w' → o.wp P a w' (fun a w => Q' .normal a w) Q' := by
        unfold qOp at hq
        simp only [ho'] at hq
        rw [if_pos (by simp [Region.wanted, hg])] at hq
        obtain ⟨v, _, hk⟩ := hq
        simp only [hd, Act.put] at hk
        cases fuel with
        | zero => exact hk.2
        | succ fuel => exact hk.1 (by rw [hready]; exact hdone)
      unfold wpOp
      simp only [ho]
      rw [if_pos (by simp [Region.wanted, hg])]
      exact .inl (Oper.wp_mono (fun a' w' h' => wpAny_done hdone h' fuel) (hQ w hC))
    · have hi3 : i < n := by omega
      have hmono : ∀ a' w', C w' → wpAnyQ P .any ops' C (fun a => ∀ w', C w' → o.wp P a w' (fun a w => Q' .normal a w) Q') fuel (listed.setIfInBounds i true) a' → wpAny P .any ops Q' fuel (listed.setIfInBounds i true) a' w' := by
        intro a' w' hC' hk
        refine ih (listed.setIfInBounds i true) a' (by simpa using hls) ?_ ?_ hk w' hC'
        · intro j oj hoj hj e he hb
          rw [getD_set _ _ _ _ (by omega)] at hj ⊢
          by_cases e1 : j = i
          · subst e1
            rw [hoi] at hoj
            simp only [Option.some.injEq] at hoj
            subst hoj
            have := hed e he hb
            split
            · rfl
            · exact this
          · rw [if_neg e1] at hj
            have := hcl j oj hoj hj e he hb
            split
            · rfl
            · exact this
        · rw [getD_set _ _ _ _ (by omega), if_neg (by omega)]; exact hn
      unfold qOp at hq
      rw [hsame i hi3, hoi] at hq
      unfold wpOp
      rw [hoi]
      have hy : yielded ops' a.tmps = yielded ops a.tmps := funext (hyield a.tmps)
      simp only [hy] at hq ⊢
      split
      · rename_i hw
        simp only [hw, if_true] at hq
        exact .inl (Oper.wp_of_quiet hC hmono hq)
      · rename_i hw
        simp only [hw] at hq
        exact hmono _ _ hC hq

/-- The region: a walk of the reads in the order of the text, then the last operation. -/
theorem wp_region_then {P : Program} {id : Nat} {Q : Exit → Act → World → Prop} {a : Act} {w : World} {L : List Oper} {ι : Type} {f : ι → World} (hall : ∀ w', Below w.heap.size w w' → ∃ x, w' = f x)
    (hm : P.follows .mixedOrders = true) (hB : Region.lexB .any (swapLast L).toArray = true) (hL : lateB L = true)
    (h : wpQuiet P (swapLast L).toArray (fun w' => ∃ x, w' = f x) (fun a' => ∀ w', (∃ x, w' = f x) → (lastOf L).wp P a' w' (fun a w => Q .normal a w) Q) (swapLast L) a) : (Code.region id L.toArray true).wp P Q a w := by
  simp only [lateB, Bool.and_eq_true, decide_eq_true_eq, Option.isNone_iff_eq_none, List.all_eq_true, List.mem_range, List.any_eq_true] at hL
  obtain ⟨⟨⟨⟨h0, hg⟩, hd⟩, e1⟩, e2⟩ := hL
  obtain ⟨n, hn⟩ : ∃ n, L.length = n + 1 := ⟨L.length - 1, by omega⟩
  simp only [Region.lexB, Bool.and_eq_true] at hB
  have hlex := wpAnyQ_lex (P := P) (C := fun w' => ∃ x, w' = f x) (md := .any) hB.1 (swapLast L) 0 (Array.replicate (swapLast L).length false) a (by simp) (by simpa using hB.2) h
  have hla := lastOf_at L h0
  rw [hn] at hla
  simp only [Nat.add_sub_cancel] at hla
  refine wp_region_any hm ?_
  have hfin := then_aux (P := P) (ops := L.toArray) (ops' := (swapLast L).toArray) (n := n) (o := lastOf L) (C := fun w' => ∃ x, w' = f x) (Q' := Q) (by simpa using hn) (by simp [swapLast_len, hn])
    (fun i hi => by simpa using swapLast_at L i (by omega)) (by simpa using hla.1) (by simpa using hla.2) hg hd
    (fun i oi hoi e he hb => by
      have hi : i < L.length := by
        rcases Nat.lt_or_ge i L.length with h | h
        · exact h
        · rw [Array.getElem?_eq_none (by simpa using h)] at hoi; cases hoi
      have := e1 i hi
      have hoi' : L[i]? = some oi := by simpa using hoi
      rw [hoi'] at this
      simp only [Option.map_some, Option.getD_some, Array.all_eq_true_iff_forall_mem, Bool.or_eq_true, Bool.not_eq_true', decide_eq_true_eq] at this
      rcases this e he with k | k
      · rw [hb] at k; cases k
      · exact k)
    (fun i hi => by
      obtain ⟨j, hj, hx⟩ := e2 i (by omega)
      obtain ⟨hij, hx⟩ := hx
      cases hoj : L[j]? with
      | none => rw [hoj] at hx; simp at hx
      | some oj =>
        rw [hoj] at hx
        simp only [Option.map_some, Option.getD_some, List.any_eq_true, Bool.and_eq_true, decide_eq_true_eq] at hx
        obtain ⟨e, he, hb, heq⟩ := hx
        exact ⟨j, oj, hij, by simpa using hoj, e, by simpa using he, hb, heq⟩)
    (swapLast L).length (Array.replicate (swapLast L).length false) a (by simp [swapLast_len, hn])
    (fun j oj hoj hj => by
      have hjl : j < L.length := by
        rcases Nat.lt_or_ge j L.length with h | h
        · exact h
        · rw [Array.getElem?_eq_none (by simpa using h)] at hoj; cases hoj
      simp [Array.getD_eq_getD_getElem?, swapLast_len, hjl] at hj)
    (by simp [Array.getD_eq_getD_getElem?, swapLast_len, hn]) hlex { w with drawn := w.drawn + 1 } (hall _ ⟨rfl, rfl, rfl, Nat.le_refl _, fun _ _ => rfl⟩)
  have hs : L.toArray.size = (swapLast L).length := by simp [swapLast_len]
  rw [hs]
  exact hfin

end Go.Proofs.Ytfnnfldfnjnlfah
