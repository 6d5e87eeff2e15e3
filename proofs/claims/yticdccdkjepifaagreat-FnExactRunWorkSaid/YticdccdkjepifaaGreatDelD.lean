/-
  slices.Delete of one defect out of a list that a call has made: the list without it, in the same memory. At lists of at most 1000.
-/
import Derived.Test.YticdccdkjepifaaGreatInsD
import Derived.Test.YticdccdkjepifaaGreatAppM
import Derived.Deep.Upon
namespace Go.Proofs.YticdccdkjepifaaGreat
open Go Go.RowKit

/-- The list without the element at place k. -/
def dlD {α : Type} (us : List α) (k : Nat) : List α := us.take k ++ us.drop (k + 1)
theorem dlD_len {α : Type} {us : List α} {k : Nat} (h : k < us.length) : (dlD us k).length = us.length - 1 := by
  simp only [dlD, List.length_append, List.length_take, List.length_drop]; omega
theorem dlD_at {α : Type} [Inhabited α] {us : List α} {k i : Nat} (h : k < us.length) (hi : i < us.length - 1) : elAt (dlD us k) i = elAt us (if i < k then i else i + 1) := by
  unfold dlD
  by_cases c : i < k
  · rw [if_pos c, elAt_left (by rw [List.length_take]; omega)]
    simp [elAt, c]
  · rw [if_neg c]
    obtain ⟨j, rfl⟩ : ∃ j, i = (us.take k).length + j := ⟨i - k, by rw [List.length_take]; omega⟩
    rw [elAt_right]
    simp only [List.length_take] at *
    simp only [elAt, List.getElem?_drop]
    congr 2; omega
theorem step_append_runD {ops : Array Oper} {o : Oper} {a : Act} {w : World} {K : Act → World → Prop} {Q : Exit → Act → World → Prop} {E : Prop}
    (hg : o.guard = none) (d x : Operand) (dT : TypeId) (hop : o.op = Op.call { callee := Callee.builtin Builtin.append, args := #[d, x], argTypes := #[dT, dT] })
    (v u : Value) (hd : a.eval d = v) (hx : a.eval x = u) {v' : Value} {w' : World} (hr : (Builtin.append_ #[dT, dT] o.type #[v, u]).run Tryz.prog w = .ok v' w') (hK : K (a.put o.dst v') w') :
    if Region.wanted o (yielded ops a.tmps) = true then Oper.wp Tryz.prog o a w K Q else E := by
  have hw : Region.wanted o (yielded ops a.tmps) = true := by simp [Region.wanted, hg]
  rw [if_pos hw]
  unfold Oper.wp
  simp [execOp, hop, resolve, invoke, builtin, hd, hx, hr, Result.andThen]
  exact hK
theorem clear_oneD (w : World) (g o c : Nat) (cur : Array Value) (ty : TypeId) (hg : w.heap[g]? = some (.cells cur 94 (0, 0))) (hfit : o + 3 ≤ cur.size) :
    (Builtin.clear_ #[34] ty #[.slice (some ⟨g, o, none⟩) 1 c]).run Tryz.prog w = .ok (.tuple #[]) (w.setRow g (seg cur.toList o [.string ⟨#[]⟩, .int .i64 0, .int .i64 0]).toArray) := by
  have hst := run_storeCells_at Tryz.prog g o 94 [.string ⟨#[]⟩, .int .i64 0, .int .i64 0] 0 cur w hg (by simpa using hfit) (by intro v hv; simp at hv; rcases hv with rfl | rfl <;> rfl)
  have hz : (Builtin.zeroCells (Value.agg #[.string ⟨#[]⟩, .int .i64 0, .int .i64 0]).cells 1).toList = [.string ⟨#[]⟩, .int .i64 0, .int .i64 0] := by kernel_rfl
  have hv := Tryz.zeroValue94 w
  simp only [Nat.add_zero] at hst
  simp [Builtin.clear_, run_underlying Tryz.underlying34, hv, hz, hst, seg]

set_option maxRecDepth 100000 in
set_option maxHeartbeats 4000000 in
theorem delD_mid (base g n m cp k j : Nat) (us : List Df) (w : World) (h : OwnE 3 dfC w base 94 (.slice (some ⟨g, 0, none⟩) n cp) us) (hn : us.length = n) (hnm : n = m + 1) (hj : j = k + 1) (hs : n ≤ 1000) (hk : k < m) :
    Calls Tryz.prog 87 #[.slice (some ⟨g, 0, none⟩) n cp, .int .i64 (k : Int), .int .i64 (j : Int)] w fun e w' => e = .returned (.slice (some ⟨g, 0, none⟩) m cp) ∧ OwnE 3 dfC w' base 94 (.slice (some ⟨g, 0, none⟩) m cp) (dlD us k) ∧ w.grownBy w' (some g) := by
  obtain ⟨cs, cur, hbg, hgw, hg, hnc, hcm, hcz, hcl, hcur, hcell, hcs, h1c⟩ := insD_open h hn
  obtain ⟨i0, hi0, hz0, hzs, hzb⟩ := info_parts infoDf
  have hcz2 : cur.toList.length = cp * 3 := by simpa using hcz
  obtain ⟨R2, hR2⟩ : ∃ R2 : Array Value, R2 = (seg cur.toList (k * 3) (cs.drop (j * 3))).toArray := ⟨_, rfl⟩
  have hdl : (cs.drop (j * 3)).length = (n - j) * 3 := by rw [List.length_drop, hcl]; omega
  have hkm : k + (n - j) = m := by omega
  have happ : ∀ ty c, (Builtin.append_ #[34, 34] ty #[.slice (some ⟨g, 0, none⟩) k cp, .slice (some ⟨g, j * 3, none⟩) (n - j) c]).run Tryz.prog w.drew = .ok (.slice (some ⟨g, 0, none⟩) m cp) (w.drew.setRow g R2) := fun ty c => by
    have := run_append_room (P := Tryz.prog) w.drew 34 ty 94 i0 Tryz.underlying34 hi0 g k cp cur hg ⟨g, j * 3, none⟩ (n - j) c (cs.drop (j * 3)) (by rw [hzs]; exact hdl) (fun p u hp => by
      rw [List.getElem?_drop] at hp
      rw [addr_addR]
      exact hcell _ u hp) (fun v hv => h1c v (List.mem_of_mem_drop hv)) (by omega) (by rw [hzs, hdl, hcz]; omega)
    rw [hkm, hzs] at this
    rw [hR2]
    exact this
  have hs2 : R2.toList.length = cp * 3 := by rw [hR2]; simp only; rw [seg_len (by rw [hcz2, hdl]; omega)]; exact hcz2
  have hs3 : R2.size = cp * 3 := by simpa using hs2
  have hg2 : (w.drew.setRow g R2).heap[g]? = some (.cells R2 94 (0, 0)) := setRow_heap w.drew g cur R2 _ _ hg
  obtain ⟨R3, hR3⟩ : ∃ R3 : Array Value, R3 = (seg R2.toList (m * 3) [.string ⟨#[]⟩, .int .i64 0, .int .i64 0]).toArray := ⟨_, rfl⟩
  have hclr : ∀ ty c, (Builtin.clear_ #[34] ty #[.slice (some ⟨g, m * 3, none⟩) 1 c]).run Tryz.prog (w.drew.setRow g R2) = .ok (.tuple #[]) ((w.drew.setRow g R2).setRow g R3) := fun ty c => by
    rw [hR3]; exact clear_oneD (w.drew.setRow g R2) g (m * 3) c R2 ty hg2 (by rw [hs3]; omega)
  have hR3l : R3.size = cp * 3 := by
    rw [hR3]; simp only [List.size_toArray]; rw [seg_len (by rw [hs2]; simp; omega)]; exact hs2
  have hcells : ∀ i, i < m → ∀ q, q < 3 → R3.toList[i * 3 + q]? = some (dfC (elAt (dlD us k) i) q) := fun i hi q hq => by
    rw [hR3]; simp only
    rw [seg_out (by rw [hs2]; simp; omega) (.inl (by omega)), dlD_at (by omega) (by omega), hR2]
    simp only
    by_cases c : i < k
    · rw [if_pos c, seg_out (by rw [hcz2, hdl]; omega) (.inl (by omega)), hcur _ (by omega)]
      exact hcs i (by omega) q hq
    · rw [if_neg c, seg_in (by rw [hcz2, hdl]; omega) (by omega) (by rw [hdl]; omega), List.getElem?_drop, show j * 3 + (i * 3 + q - k * 3) = (i + 1) * 3 + q by omega]
      exact hcs (i + 1) (by omega) q hq
  have hfin : OwnE 3 dfC ((w.drew.setRow g R2).setRow g R3) base 94 (.slice (some ⟨g, 0, none⟩) m cp) (dlD us k) ∧ w.grownBy ((w.drew.setRow g R2).setRow g R3) (some g) := by
    have gr : w.grownBy ((w.drew.setRow g R2).setRow g R3) (some g) := grown_heap rfl rfl rfl (by simp) (fun j hj hne => by rw [setRow_at hne, setRow_at hne]; rfl)
    have hh : ((w.drew.setRow g R2).setRow g R3).heap[g]? = some (.cells R3 94 (0, 0)) := setRow_heap (w.drew.setRow g R2) g R2 R3 _ _ hg2
    have hlen : (dlD us k).length = m := by rw [dlD_len (by omega)]; omega
    exact ⟨ownE_row hh hbg hlen (by omega) hcm hR3l hcells, gr⟩
  have HF := hide hfin
  have hk0 : (0 : Int) ≤ (k : Int) := by omega
  have hj0 : (0 : Int) ≤ (j : Int) := by omega
  have hkj : (k : Int) ≤ (j : Int) := by omega
  have hjn : (j : Int) ≤ (n : Int) := by omega
  have hkjn : k ≤ j := by omega
  have hjnn : j ≤ n := by omega
  have hkc : k ≤ cp := by omega
  have hki : (k : Int) ≤ (cp : Int) := by omega
  have hjc : j ≤ cp := by omega
  have hm0 : (0 : Int) ≤ (m : Int) := by omega
  have hmn2 : (m : Int) ≤ (n : Int) := by omega
  have hmnn : m ≤ n := by omega
  have hncI : (n : Int) ≤ (cp : Int) := by omega
  have hmc : ¬ (cp = m) := by omega
  have hckk : ¬ (cp = k) := by omega
  have hnk : ¬ (n = k) := by omega
  have hn1 : n - m = 1 := by omega
  have hne1 : ((k : Int) == (j : Int)) = false := by simp only [beq_eq_false_iff_ne]; omega
  have hne2 : ¬ ((k : Int) = (j : Int)) := by omega
  have hne3 : ¬ (k = j) := by omega
  have hne4 : decide (k = j) = false := by simp only [decide_eq_false_iff_not]; omega
  have hcj : ¬ (cp = j) := by omega
  have hcmx : cp ≤ 9223372036854775807 := by unfold maxLen at hcm; omega
  clear hfin hcells hR3l hs2 hs3 hg2 hdl hR2 hR3 hkm hnm hk hcur hcell hcs h1c hcl hcz hcz2 hcm hg h hgw hbg hn hj hi0 hz0 hzs hzb
  go_enter Tryz.func87, Tryz.ntmps87
  go_wp2_with fail
  go_region_law (refine step_append_runD rfl (.tmp 22) (.tmp 25) 34 rfl (.slice (some ⟨g, 0, none⟩) k cp) (.slice (some ⟨g, j * 3, none⟩) (n - j) (cp - j)) (by simp [Act.eval, Act.put]) (by simp [Act.eval, Act.put]) (happ 34 (cp - j)) ?_)
  go_wp2_with fail
  go_ret
  exact ⟨rfl, unhide HF⟩
set_option maxRecDepth 100000 in
set_option maxHeartbeats 4000000 in
theorem delD_end (base g n m cp k j : Nat) (us : List Df) (w : World) (h : OwnE 3 dfC w base 94 (.slice (some ⟨g, 0, none⟩) n cp) us) (hn : us.length = n) (hnm : n = m + 1) (hj : j = k + 1) (hs : n ≤ 1000) (hk : k = m) :
    Calls Tryz.prog 87 #[.slice (some ⟨g, 0, none⟩) n cp, .int .i64 (k : Int), .int .i64 (j : Int)] w fun e w' => e = .returned (.slice (some ⟨g, 0, none⟩) m cp) ∧ OwnE 3 dfC w' base 94 (.slice (some ⟨g, 0, none⟩) m cp) (dlD us k) ∧ w.grownBy w' (some g) := by
  subst hk
  obtain ⟨cs, cur, hbg, hgw, hg, hnc, hcm, hcz, hcl, hcur, hcell, hcs, h1c⟩ := insD_open h hn
  obtain ⟨i0, hi0, hz0, hzs, hzb⟩ := info_parts infoDf
  have hcz2 : cur.toList.length = cp * 3 := by simpa using hcz
  have hR2 : cur = cur := rfl
  have happ : ∀ ty xa c, (Builtin.append_ #[34, 34] ty #[.slice (some ⟨g, 0, none⟩) k cp, .slice xa 0 c]).run Tryz.prog w.drew = .ok (.slice (some ⟨g, 0, none⟩) k cp) w.drew := fun ty xa c => run_append_nothing (P := Tryz.prog) w.drew 34 34 ty 94 i0 Tryz.underlying34 hi0 (some ⟨g, 0, none⟩) k cp (by omega) (.slice xa 0 c) ⟨.inl ⟨_, Tryz.underlying34⟩, fun w' => by simp [Builtin.lenOf], by cases xa <;> simp [Builtin.firstCells, loadCells, loadCellsFrom], by cases xa <;> simp [Builtin.firstCells, loadCells, loadCellsFrom], by simp, fun u hu => by cases hu⟩
  obtain ⟨R3, hR3⟩ : ∃ R3 : Array Value, R3 = (seg cur.toList (k * 3) [.string ⟨#[]⟩, .int .i64 0, .int .i64 0]).toArray := ⟨_, rfl⟩
  have hclr : ∀ ty c, (Builtin.clear_ #[34] ty #[.slice (some ⟨g, k * 3, none⟩) 1 c]).run Tryz.prog w.drew = .ok (.tuple #[]) (w.drew.setRow g R3) := fun ty c => by
    rw [hR3]; exact clear_oneD w.drew g (k * 3) c cur ty hg (by rw [hcz]; omega)
  have hR3l : R3.size = cp * 3 := by
    rw [hR3]; simp only [List.size_toArray]; rw [seg_len (by rw [hcz2]; simp; omega)]; exact hcz2
  have hR3a : ∀ p, p < k * 3 → R3.toList[p]? = cs[p]? := fun p hp => by
    rw [hR3]; simp only; rw [seg_out (by rw [hcz2]; simp; omega) (.inl hp)]; exact hcur p (by omega)
  have hcells : ∀ i, i < k → ∀ q, q < 3 → R3.toList[i * 3 + q]? = some (dfC (elAt (dlD us k) i) q) := fun i hi q hq => by
    rw [hR3a _ (by omega), dlD_at (by omega) (by omega), if_pos (by omega)]
    exact hcs i (by omega) q hq
  have hfin : OwnE 3 dfC (w.drew.setRow g R3) base 94 (.slice (some ⟨g, 0, none⟩) k cp) (dlD us k) ∧ w.grownBy (w.drew.setRow g R3) (some g) := by
    have gr : w.grownBy (w.drew.setRow g R3) (some g) := grown_heap rfl rfl rfl (by simp) (fun j hj hne => setRow_at hne)
    have hh : (w.drew.setRow g R3).heap[g]? = some (.cells R3 94 (0, 0)) := setRow_heap w.drew g cur R3 _ _ hg
    have hlen : (dlD us k).length = k := by rw [dlD_len (by omega)]; omega
    exact ⟨ownE_row hh hbg hlen (by omega) hcm hR3l hcells, gr⟩
  have HF := hide hfin
  have hk0 : (0 : Int) ≤ (k : Int) := by omega
  have hj0 : (0 : Int) ≤ (j : Int) := by omega
  have hkj : (k : Int) ≤ (j : Int) := by omega
  have hjn : (j : Int) ≤ (n : Int) := by omega
  have hkjn : k ≤ j := by omega
  have hjnn : j ≤ n := by omega
  have hkc : k ≤ cp := by omega
  have hki : (k : Int) ≤ (cp : Int) := by omega
  have hjc : j ≤ cp := by omega
  have hm0 : (0 : Int) ≤ (k : Int) := by omega
  have hmn2 : (k : Int) ≤ (n : Int) := by omega
  have hmnn : k ≤ n := by omega
  have hncI : (n : Int) ≤ (cp : Int) := by omega
  have hmc : ¬ (cp = k) := by omega
  have hckk : ¬ (cp = k) := by omega
  have hnk : ¬ (n = k) := by omega
  have hn1 : n - k = 1 := by omega
  have hne1 : ((k : Int) == (j : Int)) = false := by simp only [beq_eq_false_iff_ne]; omega
  have hne2 : ¬ ((k : Int) = (j : Int)) := by omega
  have hne3 : ¬ (k = j) := by omega
  have hne4 : decide (k = j) = false := by simp only [decide_eq_false_iff_not]; omega
  have hnj : n - j = 0 := by omega
  have hjn2 : j = n := by omega
  have hcmx : cp ≤ 9223372036854775807 := by unfold maxLen at hcm; omega
  clear hfin hcells hR3l hR3 hR3a hR2 hnm hcur hcell hcs h1c hcl hcz hcz2 hcm hg h hgw hbg hn hj hi0 hz0 hzs hzb
  rcases Nat.lt_or_ge n cp with hcn | hcn
  · have hcn2 : ¬ (cp = n) := by omega
    go_enter Tryz.func87, Tryz.ntmps87
    go_wp2_with fail
    go_region_law (refine step_append_runD rfl (.tmp 22) (.tmp 25) 34 rfl (.slice (some ⟨g, 0, none⟩) k cp) (.slice (some ⟨g, n * 3, none⟩) 0 (cp - n)) (by simp [Act.eval, Act.put]) (by simp [Act.eval, Act.put]) (happ 34 _ _) ?_)
    go_wp2_with fail
    go_ret
    exact ⟨rfl, unhide HF⟩
  · obtain rfl : cp = n := by omega
    go_enter Tryz.func87, Tryz.ntmps87
    go_wp2_with fail
    go_region_law (refine step_append_runD rfl (.tmp 22) (.tmp 25) 34 rfl (.slice (some ⟨g, 0, none⟩) k cp) (.slice (some ⟨g, 0, none⟩) 0 0) (by simp [Act.eval, Act.put]) (by simp [Act.eval, Act.put]) (happ 34 _ _) ?_)
    go_wp2_with fail
    go_ret
    exact ⟨rfl, unhide HF⟩
theorem delD_any (base g n m cp k j : Nat) (us : List Df) (w : World) (h : OwnE 3 dfC w base 94 (.slice (some ⟨g, 0, none⟩) n cp) us) (hn : us.length = n) (hnm : n = m + 1) (hj : j = k + 1) (hs : n ≤ 1000) (hk : k < n) :
    Calls Tryz.prog 87 #[.slice (some ⟨g, 0, none⟩) n cp, .int .i64 (k : Int), .int .i64 (j : Int)] w fun e w' => e = .returned (.slice (some ⟨g, 0, none⟩) m cp) ∧ OwnE 3 dfC w' base 94 (.slice (some ⟨g, 0, none⟩) m cp) (dlD us k) ∧ w.grownBy w' (some g) := by
  by_cases e : k = m
  · exact delD_end base g n m cp k j us w h hn hnm hj hs e
  · exact delD_mid base g n m cp k j us w h hn hnm hj hs (by omega)

end Go.Proofs.YticdccdkjepifaaGreat
